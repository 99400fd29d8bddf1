/- Texts of one subject in one file: RtSum, RtCopy, RtGetM, RtGetN. Own work. -/
import Derived.Test.YtenigdbnfepkeaaDoorRtM
import Derived.Test.YtenigdbnfepkeaaDoorRefX
import Derived.Test.YtenigdbnfepkeaaDoorSlZ
import Derived.Test.YtenigdbnfepkeaaDoorFillX
import Derived.Test.YtenigdbnfepkeaaDoorEqX
import Derived.Test.YtenigdbnfepkeaaDoorShaD
import Derived.Deep.DeepCutAuto
import Derived.Test.YtenigdbnfepkeaaDoorRtDocA
/- The next 32 bytes of the document's reader, as a sum: contract. Own work. -/
namespace Go.Proofs.YtenigdbnfepkeaaDoor
open Go.ChangeShapes Go.WideShapes Go.ChangeAt Go.RowKit
open RT
theorem zeroSumS (w : World) : (zeroValue 24).run Tryd.prog w = .ok (.agg (row8 (List.replicate 32 0)).toArray) w := by kernel_rfl
theorem zeroRd (w : World) : (zeroValue 65).run Tryd.prog w = .ok (.agg #[.slice none 0 0, .int .i64 0]) w := by kernel_rfl
theorem oneRd (a : Option Addr) (n c : Nat) (e : Int) : ([Value.slice a n c, .int .i64 e].toArray.all (·.oneCell')) = true := by simp [Value.oneCell']
/-- The first k bytes, and noughts behind them. -/
def part (l : List Nat) (k : Nat) : List Nat := (List.range 32).map fun i => if i < k then gb l i else 0
theorem part_bytes {l : List Nat} (h : ∀ k, gb l k < 256) (k : Nat) : Bytes 32 (part l k) := by
  refine ⟨by simp [part], fun j => ?_⟩
  unfold part; rw [gb_map]
  split
  · split
    · exact h j
    · decide
  · decide
theorem part_zero (l : List Nat) : part l 0 = List.replicate 32 0 := rfl
theorem part_step (l : List Nat) {k : Nat} (hk : k < 32) : (part l k).set k (gb l k) = part l (k + 1) := by
  apply bytes_ext (n := 32) (by simp [part]) (by simp [part])
  intro j hj
  rw [gb_set _ _ _ _ (by simp [part]; exact hk)]
  unfold part
  rw [gb_map, gb_map, if_pos hj, if_pos hj]
  by_cases e : k = j
  · subst e; rw [if_pos rfl, if_pos (by omega)]
  · rw [if_neg e]
    by_cases h : j < k
    · rw [if_pos h, if_pos (by omega)]
    · rw [if_neg h, if_neg (by omega)]
theorem part_all {l : List Nat} (h : l.length = 32) : part l 32 = l := by
  apply bytes_ext (n := 32) (by simp [part]) h
  intro j hj
  unfold part; rw [gb_map, if_pos hj, if_pos hj]
theorem rp_read {l : List Nat} {m : Nat} (h : m ≤ l.length) : rpGot l 0 (m : Int) = l.take m ∧ rpLeft l 0 (m : Int) = l.drop m ∧ rpErr l 0 (m : Int) = 0 := by
  have hk : lookP (m : Int) l.length = 0 := by unfold lookP; rw [if_neg (by omega), if_neg (by omega)]
  unfold rpGot rpLeft rpErr
  rw [if_pos ⟨rfl, hk⟩, if_pos ⟨rfl, hk⟩, if_pos rfl, Int.toNat_natCast]
  exact ⟨rfl, rfl, hk⟩
/-- What stands while the two results are stored, in whatever order. -/
structure TwoR (w1 : World) (rb sb a b : Nat) (V : List Value) (S D : List Value) (r : Told) (w : World) : Prop where
  bel : ∀ k, k < a → w.heap[k]? = w1.heap[k]?
  big : w1.heap.size ≤ w.heap.size
  os : w.os = w1.os ∧ w.tape = w1.tape ∧ w.output = w1.output
  src : Blk w rb 65 V ∧ Blk w sb 24 S
  a0 : r 2 = none → Blk w a 65 [.slice none 0 0, .int .i64 0]
  a1 : r 2 ≠ none → Blk w a 65 V
  b0 : r 3 = none → Blk w b 24 D
  b1 : r 3 ≠ none → Blk w b 24 S
set_option maxRecDepth 100000 in
set_option maxHeartbeats 2000000 in
theorem rrsum_any (w : World) (sv : Value) (l : List Nat) (h : Rd w sv l) (hl : 32 ≤ l.length) : Calls Tryd.prog 29 #[refv sv 0] w fun e w' => ∃ sv', e = .returned (.tuple #[refv sv' 0, .agg (row8 (l.take 32)).toArray]) ∧ (∀ W, Rd W sv l → Rd W sv' (l.drop 32)) ∧ Below w.heap.size w w' := by
  obtain ⟨sa, sc, rfl, _⟩ := h.shape
  obtain ⟨n, hn⟩ : ∃ n, n = l.length := ⟨_, rfl⟩
  have HV := Lib.hid h
  obtain ⟨D0, hD0⟩ : ∃ D, D = row8 (List.replicate 32 0) := ⟨_, rfl⟩
  have hz : ∀ w, (zeroValue 24).run Tryd.prog w = .ok (.agg D0.toArray) w := by rw [hD0]; exact zeroSumS
  have hzr := zeroRd
  have HD := Lib.hid hD0
  have D32 := Lib.hid (show D0.length = 32 by rw [hD0, row8_len, List.length_replicate])
  obtain ⟨w3, hw3⟩ : ∃ x, x = ((w.alloc (.cells #[.slice sa l.length sc, .int .i64 0] 65)).alloc (.cells #[.slice none 0 0, .int .i64 0] 65)).alloc (.cells D0.toArray 24) := ⟨_, rfl⟩
  have hb3 : Below w.heap.size w w3 := by rw [hw3]; exact (((Below.refl _ _).alloc (Nat.le_refl _) _).alloc (by simp) _).alloc (by simp; omega) _
  have K1 := Lib.hid (show Blk w3 w.heap.size 65 [.slice sa l.length sc, .int .i64 0] by rw [hw3]; exact ((Blk.new w 65 [.slice sa l.length sc, .int .i64 0] _ rfl).alloc _).alloc _)
  have K2 := Lib.hid (show Blk w3 (w.heap.size + 1) 65 [.slice none 0 0, .int .i64 0] by rw [hw3]; exact (Blk.new _ 65 [.slice none 0 0, .int .i64 0] _ (by simp)).alloc _)
  have K3 := Lib.hid (show Blk w3 (w.heap.size + 2) 24 D0 by rw [hw3]; exact Blk.new _ 24 D0 _ (by simp))
  have HT := Lib.hid (show Calls Tryd.prog 51 #[refv (.slice sa l.length sc) 0, .int .i64 32] w3 fun ev w' => ∃ sv' v, ev = .returned (.tuple #[refv sv' 0, v]) ∧ (∀ W, Rd W (.slice sa l.length sc) l → Rd W sv' (l.drop 32)) ∧ Own w' w3.heap.size v (l.take 32) ∧ Below w3.heap.size w3 w' from by
    obtain ⟨h1, h2, h3⟩ := rp_read (l := l) (m := 32) hl
    have q := refTake_any w3 (.slice sa l.length sc) l 0 ((32 : Nat) : Int) (h.below hb3) (fun e => absurd rfl e)
    rw [h1, h2, h3] at q
    exact q)
  have W3 := Lib.hid hb3
  have HL := Lib.hid hl
  have T32 := Lib.hid (show (l.take 32).length = 32 by rw [List.length_take]; omega)
  have HBY := Lib.hid (show ∀ k, gb (l.take 32) k < 256 from gb_take_byte l 32 h.byte)
  rw [← hn] at K1 HT HV
  obtain ⟨T, hT⟩ : ∃ T, T = l.take 32 := ⟨_, rfl⟩
  rw [← hT] at HT T32 HBY ⊢
  obtain ⟨LD, hLD⟩ : ∃ T, T = l.drop 32 := ⟨_, rfl⟩
  obtain ⟨m, hm⟩ : ∃ m, m = LD.length := ⟨_, rfl⟩
  have HMm := Lib.hid hm
  rw [← hn, ← hLD]
  rw [← hLD] at HT
  rw [← hn] at hw3
  clear hn hD0 hb3 h hl hT hLD hm
  go_enter Tryd.func29, Tryd.ntmps29
  go_upto_region 1 with fail
  rw [← hw3]
  clear hw3
  go_upto_region 2 with (first
    | (refine wpList_load_mid rfl 65 (.tmp 1) rfl w.heap.size 0 rfl [.slice sa n sc, .int .i64 0] _ K1.out.range Tryd.underlying65 rfl infoRd ?_)
    | (go_at_call 51; (with_reducible refine HT.out.mono ?_); rintro e w4 ⟨sv', v, rfl, s4, o4, b4⟩; have S4 := Lib.hid s4; have O4 := Lib.hid (show Rd w4 v T ∧ ∀ g, v.ownBlock = some g → w3.heap.size ≤ g from ⟨o4.rd, fun g hg => (o4.from g hg).1⟩); have W4 := Lib.hid (W3.out.on b4); have K14 := Lib.hid (K1.out.below b4 K1.out.lt); have K24 := Lib.hid (K2.out.below b4 K2.out.lt); have K34 := Lib.hid (K3.out.below b4 K3.out.lt); obtain ⟨va, vc, rfl, _⟩ := (s4 _ HV.out).shape; obtain ⟨ua, uc, rfl, _⟩ := o4.rd.shape; rw [T32.out] at O4 ⊢; rw [← HMm.out] at S4 ⊢; clear s4 o4 b4)
    | (refine wpList_store_blk rfl 65 (.tmp 1) (.tmp 10) rfl w.heap.size 0 [.slice va m vc, .int .i64 0] rfl rfl 65 [.slice sa n sc, .int .i64 0] K14.out (Nat.le_refl _) infoRd (oneRd _ _ _ _) ?_; intro w5 b5 g5; rw [splice_all _ _ (by rfl)] at b5; have K15 := Lib.hid b5; have K25 := Lib.hid (K24.out.grown g5 (by simp)); have K35 := Lib.hid (K34.out.grown g5 (by simp)); have W5 := Lib.hid (W4.out.grown g5 W4.out.size (fun g hg => Nat.le_of_eq (Option.some.inj hg))); have O5 := Lib.hid (O4.out.1.grown g5 (by cases e : (Value.slice ua 32 uc).ownBlock with | none => exact .inl rfl | some g => exact .inr (fun q => by have := O4.out.2 g e; have := Option.some.inj q; have := K1.out.lt; omega))); clear b5 g5))
  obtain ⟨sb, hsb⟩ : ∃ b, b = w5.heap.size := ⟨_, rfl⟩
  have HSB := Lib.hid (show w.heap.size + 2 < sb by rw [hsb]; exact K35.out.lt)
  obtain ⟨w6, hw6⟩ : ∃ x, x = w5.alloc (.cells D0.toArray 24) := ⟨_, rfl⟩
  have b6 : Below w5.heap.size w5 w6 := by rw [hw6]; exact (Below.refl _ _).alloc (Nat.le_refl _) _
  have K16 := Lib.hid (K15.out.below b6 K15.out.lt)
  have K26 := Lib.hid (K25.out.below b6 K25.out.lt)
  have K36 := Lib.hid (K35.out.below b6 K35.out.lt)
  have W6 := Lib.hid (W5.out.on b6)
  have O6 := Lib.hid (O5.out.below b6)
  have P6 := Lib.hid (show Blk w6 sb 24 (row8 (part T 0)) by rw [part_zero, ← HD.out, hw6]; exact Blk.new _ _ _ _ hsb)
  have HUB := Lib.hid (O5.out.old (by rw [T32.out]; decide))
  clear K1 K2 K3 W3 HT W4 K14 K24 K34 O4 K15 K25 K35 W5
  go_upto_region 4 with fail
  rw [← hw6, ← hsb]
  rw [← hsb] at HUB
  clear hw6 b6 hsb O5
  go_loopw [6] (fun i wr => ∃ k : Nat, k ≤ 32 ∧ i = .int .i64 (k : Int) ∧ Blk wr sb 24 (row8 (part T k)) ∧ Blk wr w.heap.size 65 [.slice va m vc, .int .i64 0] ∧ Blk wr (w.heap.size + 1) 65 [.slice none 0 0, .int .i64 0] ∧ Blk wr (w.heap.size + 2) 24 D0 ∧ Rd wr (.slice ua 32 uc) T ∧ Below w.heap.size w wr) (fun i _ => 32 - (intOf i).toNat)
  case atStart => exact ⟨0, by decide, rfl, P6.out, K16.out, K26.out, K36.out, O6.out, W6.out⟩
  case round =>
    clear P6 K16 K26 K36 O6 W6
    obtain ⟨k, hk, rfl, hp, h1, h2, h3, ho, hw⟩ := hrel
    have P7 := Lib.hid hp
    have K17 := Lib.hid h1
    have K27 := Lib.hid h2
    have K37 := Lib.hid h3
    have O7 := Lib.hid ho
    have W7 := Lib.hid hw
    clear h1 h2 h3 hw
    by_cases hlt : k < 32
    · obtain ⟨ad, rfl, hc⟩ := ho.at_ k (by rw [T32.out]; exact hlt)
      have pc := hp.cell k _ (row8_val (part T k) k (by simp [part]; exact hlt))
      have pf := hp.free k
      have hklt : (k : Int) < 32 := by omega
      have hk0 : (0 : Int) ≤ (k : Int) := by omega
      have hkt : ((k : Int)).toNat = k := Int.toNat_natCast k
      obtain ⟨x, hx⟩ : ∃ x, x = gb T k := ⟨_, rfl⟩
      rw [← hx] at hc
      have HX := Lib.hid hx
      clear ho hp hx
      go_wp2_with fail
      have P8 : Blk (wr.setCell ⟨sb, k, none⟩ (.int .u8 (x : Int))) sb 24 (row8 (part T (k + 1))) := by
        have h := P7.out.set k (.int .u8 (x : Int))
        rw [row8_set, HX.out, part_step T hlt] at h
        rw [HX.out]; exact h
      have g8 := grownBy_cell wr sb k (.int .u8 (x : Int))
      exact ⟨⟨k + 1, by omega, by go_num, P8, K17.out.grown g8 (fun e => by have := HSB.out; have := Option.some.inj e; omega), K27.out.grown g8 (fun e => by have := HSB.out; have := Option.some.inj e; omega), K37.out.grown g8 (fun e => by have := HSB.out; have := Option.some.inj e; omega), O7.out.grown g8 (.inr (HUB.out sb (Nat.le_refl _))), W7.out.setCell (show w.heap.size ≤ sb by have := HSB.out; omega) _⟩, by simp [intOf]; omega⟩
    · obtain rfl : k = 32 := by omega
      have P8 := Lib.hid (show Blk wr sb 24 (row8 T) by have h := P7.out; rw [part_all T32.out] at h; exact h)
      have R32 := Lib.hid (show (row8 T).length = 32 by rw [row8_len, T32.out])
      clear P7 ho hp O7
      go_upto_region 7 with fail
      obtain ⟨w1, hw1⟩ : ∃ x, x = wr.drew := ⟨_, rfl⟩
      have HW1 := Lib.hid hw1
      have P1 := Lib.hid (show Blk w1 sb 24 (row8 T) by rw [hw1]; exact P8.out.drew)
      have K11 := Lib.hid (show Blk w1 w.heap.size 65 [.slice va m vc, .int .i64 0] by rw [hw1]; exact K17.out.drew)
      have K21 := Lib.hid (show Blk w1 (w.heap.size + 1) 65 [.slice none 0 0, .int .i64 0] by rw [hw1]; exact K27.out.drew)
      have K31 := Lib.hid (show Blk w1 (w.heap.size + 2) 24 D0 by rw [hw1]; exact K37.out.drew)
      have W1 := Lib.hid (show Below w.heap.size w w1 by rw [hw1]; exact W7.out.on (Below.refl _ _).drew)
      clear hw1 P8 K17 K27 K37 W7
      refine wp_region_z (by kernel_rfl) [2, 3] (by kernel_rfl) (by kernel_rfl) (TwoR w1 w.heap.size sb (w.heap.size + 1) (w.heap.size + 2) [.slice va m vc, .int .i64 0] (row8 T) D0) [.pre (.agg [.slice va m vc, .int .i64 0].toArray), .pre (.agg (row8 T).toArray), .any, .any] (fun i hi hq => by
          simp only [List.mem_cons, List.mem_nil_iff, or_false] at hi
          rcases hi with rfl | rfl
          · rfl
          · rfl) (by
          rw [← HW1.out]
          exact ⟨fun _ _ => rfl, Nat.le_refl _, ⟨rfl, rfl, rfl⟩, ⟨K11.out, P1.out⟩, fun _ => K21.out, fun h => absurd rfl h, fun _ => K31.out, fun h => absurd rfl h⟩) ?_ ?_
      · refine ⟨?_, ?_, ?_, ?_, trivial⟩
        · intro a w5 r hF hI hns hri h1 h2 hd
          have e1 : a.eval (.tmp 1) = .pointer (some ⟨w.heap.size, 0, none⟩) := hF 1 (by decide +kernel)
          exact doesZ_ld (by decide) rfl 65 (.tmp 1) rfl w.heap.size 0 e1 [.slice va m vc, .int .i64 0] hI.src.1.range _ Tryd.underlying65 rfl infoRd hI rfl
        · intro a w5 r hF hI hns hri h1 h2 hd
          have e5 : a.eval (.tmp 5) = .pointer (some ⟨sb, 0, none⟩) := hF 5 (by decide +kernel)
          exact doesZ_ld (by decide) rfl 24 (.tmp 5) rfl sb 0 e5 (row8 T) hI.src.2.range _ Tryd.underlying24 rfl (by rw [R32.out]; exact infoS) hI rfl
        · intro a w5 r hF hI hns hri h1 h2 hd
          have e2 : a.eval (.tmp 2) = .pointer (some ⟨w.heap.size + 1, 0, none⟩) := hF 2 (by decide +kernel)
          have e24 : a.eval (.tmp 24) = .agg [.slice va m vc, .int .i64 0].toArray := hd 0 (by decide +kernel)
          refine doesZ_put (by decide) rfl 65 (.tmp 2) (.tmp 24) rfl (w.heap.size + 1) 0 [.slice va m vc, .int .i64 0] e2 e24 65 [.slice none 0 0, .int .i64 0] (hI.a0 hri) (Nat.le_refl _) infoRd (oneRd _ _ _ _) rfl (fun w' hb hg => ?_)
          rw [splice_all _ _ (by rfl)] at hb
          have ne : ∀ k, k ≠ w.heap.size + 1 → some k ≠ some (w.heap.size + 1) := fun k h e => h (Option.some.inj e)
          exact ⟨fun k hk => (hg.block k (by have := hI.big; have := W1.out.size; have := K31.out.lt; omega) (ne k (by omega))).trans (hI.bel k hk), Nat.le_trans hI.big hg.size, ⟨hg.os.trans hI.os.1, hg.tape.trans hI.os.2.1, hg.output.trans hI.os.2.2⟩, ⟨hI.src.1.grown hg (ne _ (by omega)), hI.src.2.grown hg (ne _ (by have := HSB.out; omega))⟩, fun h => (by rw [Told.set_same] at h; cases h), fun _ => hb, fun h => (hI.b0 (by rwa [Told.set_ne (by decide)] at h)).grown hg (ne _ (by omega)), fun h => (hI.b1 (by rwa [Told.set_ne (by decide)] at h)).grown hg (ne _ (by omega))⟩
        · intro a w5 r hF hI hns hri h1 h2 hd
          have e3 : a.eval (.tmp 3) = .pointer (some ⟨w.heap.size + 2, 0, none⟩) := hF 3 (by decide +kernel)
          have e25 : a.eval (.tmp 25) = .agg (row8 T).toArray := hd 1 (by decide +kernel)
          refine doesZ_put (by decide) rfl 24 (.tmp 3) (.tmp 25) rfl (w.heap.size + 2) 0 (row8 T) e3 e25 24 D0 (hI.b0 hri) (by rw [R32.out, D32.out]; exact Nat.le_refl _) (by rw [R32.out]; exact infoS) (row8_one _) rfl (fun w' hb hg => ?_)
          rw [splice_all _ _ (by rw [R32.out, D32.out])] at hb
          have ne : ∀ k, k ≠ w.heap.size + 2 → some k ≠ some (w.heap.size + 2) := fun k h e => h (Option.some.inj e)
          exact ⟨fun k hk => (hg.block k (by have := hI.big; have := W1.out.size; have := K31.out.lt; omega) (ne k (by omega))).trans (hI.bel k hk), Nat.le_trans hI.big hg.size, ⟨hg.os.trans hI.os.1, hg.tape.trans hI.os.2.1, hg.output.trans hI.os.2.2⟩, ⟨hI.src.1.grown hg (ne _ (by omega)), hI.src.2.grown hg (ne _ (by have := HSB.out; omega))⟩, fun h => (hI.a0 (by rwa [Told.set_ne (by decide)] at h)).grown hg (ne _ (by omega)), fun h => (hI.a1 (by rwa [Told.set_ne (by decide)] at h)).grown hg (ne _ (by omega)), fun h => (by rw [Told.set_same] at h; cases h), fun _ => hb⟩
      · intro vs r w9 hI hS hvs
        obtain ⟨u2, hu2⟩ := hS 2 (by decide)
        obtain ⟨u3, hu3⟩ := hS 3 (by decide)
        have A9 := Lib.hid (hI.a1 (by rw [hu2]; simp))
        have B9 := Lib.hid (hI.b1 (by rw [hu3]; simp))
        have W9 := Lib.hid (show Below w.heap.size w w9 from ⟨hI.os.1.trans W1.out.os, hI.os.2.1.trans W1.out.tape, hI.os.2.2.trans W1.out.output, Nat.le_trans W1.out.size hI.big, fun k hk => (hI.bel k (by omega)).trans (W1.out.block k hk)⟩)
        clear hI hS hvs hu2 hu3
        simp only [putOps, Act.put, List.setIfInBounds_toArray, List.set_cons_zero, List.set_cons_succ]
        go_wp2_with fail
        exact bodyPost_ret (results_cc rfl _ _ (w.heap.size + 1) (w.heap.size + 2) [.slice va m vc, .int .i64 0] (row8 T) _ _ rfl rfl A9.out.range B9.out.range Tryd.underlying65 Tryd.underlying24 rfl rfl infoRd (by rw [R32.out]; exact infoS)) rfl ⟨_, rfl, S4.out, W9.out⟩
end Go.Proofs.YtenigdbnfepkeaaDoor
/- A root as new memory (the document's answer): contract; slices of structs made and appended to, in order. Own work. -/
namespace Go.Proofs.YtenigdbnfepkeaaDoor
open Go.ChangeShapes Go.WideShapes Go.ChangeAt Go.RowKit
open RT
section
variable {P : Program} {ops : Array Oper} {rest : List Oper} {o : Oper} {a : Act} {w : World} {Q : Exit → Act → World → Prop}
theorem ownT_empty (w : World) (t : TypeId) (k : Nat) {B b : Nat} (hb : b = w.heap.size) (hB : B ≤ w.heap.size) : (w.alloc (.cells #[] t)).ownsRow B t k (.slice (some ⟨b, 0, none⟩) 0 0) 0 [] := by
  subst hb
  exact ⟨by simp, .inr ⟨_, 0, #[], rfl, hB, heap_alloc_new w _, Nat.le_refl _, by unfold maxLen; omega, by simp, by simp⟩⟩
theorem wpList_appT (hgd : o.guard = none) (s x : Operand) (st et : TypeId) (k bytes : Nat) (Z : List Value) (ho : o.op = .call { callee := .builtin .append, args := #[s, x], argTypes := #[st, st] })
    (hst : P.underlying st = some (.slice et)) (hi : (P.info? et).map (fun i => (i.zero, i.size, i.bytes)) = some (some (.agg Z.toArray), k, bytes)) (hZ : Z.length = k) (hk0 : 0 < k) (hby : bytes ≤ 4096)
    (B : Nat) (v y : Value) (n m : Nat) (cs ds : List Value) (hs : a.eval s = v) (hx : a.eval x = y) (hv : w.ownsRow B et k v n cs) (hy : RdT k w y m ds) (h1 : ∀ u ∈ ds, u.oneCell' = true) (hl : n + m ≤ 34359738368) (hB : B ≤ w.heap.size)
    (h : ∀ v' w', w'.ownsRow B et k v' (n + m) (cs ++ ds) → w.grownBy w' v.ownBlock → (v'.ownBlock = v.ownBlock ∨ v'.ownBlock = some w.heap.size) → wpList P ops Q rest (a.put o.dst v') w') : wpList P ops Q (o :: rest) a w := by
  obtain ⟨v', w', hrun, h2, h3, h4⟩ := run_appT w st et o.type k bytes Z hst hi hZ hk0 hby B v y n m cs ds hv hy h1 hl hB
  refine wpList_plain hgd fun _ hK => ?_
  unfold Oper.wp
  simp only [execOp, ho, resolve, invoke, builtin, Sem.run_bind, Sem.run_pure, Result.andThen_ok, List.map_toArray, List.map_cons, List.map_nil, hs, hx, hrun]
  exact hK _ _ (h v' w' h2 h3 h4)
theorem wpList_appTw (hgd : o.guard = none) (s x : Operand) (st et : TypeId) (k bytes : Nat) (Z : List Value) (ho : o.op = .call { callee := .builtin .append, args := #[s, x], argTypes := #[st, st] })
    (hst : P.underlying st = some (.slice et)) (hi : (P.info? et).map (fun i => (i.zero, i.size, i.bytes)) = some (some (.agg Z.toArray), k, bytes)) (hZ : Z.length = k) (hk0 : 0 < k)
    (B : Nat) (v y : Value) (n m : Nat) (cs ds : List Value) (hs : a.eval s = v) (hx : a.eval x = y) (hv : w.ownsRow B et k v n cs) (hy : RdT k w y m ds) (h1 : ∀ u ∈ ds, u.oneCell' = true) (hl : n + m ≤ 140737488355328) (hl2 : (n + m) * bytes ≤ 140737488355328) (hB : B ≤ w.heap.size)
    (h : ∀ v' w', w'.ownsRow B et k v' (n + m) (cs ++ ds) → w.grownBy w' v.ownBlock → (v'.ownBlock = v.ownBlock ∨ v'.ownBlock = some w.heap.size) → wpList P ops Q rest (a.put o.dst v') w') : wpList P ops Q (o :: rest) a w := by
  obtain ⟨v', w', hrun, h2, h3, h4⟩ := run_appTw w st et o.type k bytes Z hst hi hZ hk0 B v y n m cs ds hv hy h1 hl hl2 hB
  refine wpList_plain hgd fun _ hK => ?_
  unfold Oper.wp
  simp only [execOp, ho, resolve, invoke, builtin, Sem.run_bind, Sem.run_pure, Result.andThen_ok, List.map_toArray, List.map_cons, List.map_nil, hs, hx, hrun]
  exact hK _ _ (h v' w' h2 h3 h4)
theorem wpList_oneT (hgd : o.guard = none) (x : Operand) (st et : TypeId) (k bytes : Nat) (Z L : List Value) (ho : o.op = .buildSlice st 1 #[(0, x)]) (hst : P.underlying st = some (.slice et)) (hi : (P.info? et).map (fun i => (i.zero, i.size, i.bytes)) = some (some (.agg Z.toArray), k, bytes)) (hk0 : 0 < k) (hk1 : k ≤ 4096) (hL : L.length = k) (hx : a.eval x = .agg L.toArray)
    (h : wpList P ops Q rest (a.put o.dst (.slice (some ⟨w.heap.size, 0, none⟩) 1 1)) (w.alloc (.cells L.toArray et))) : wpList P ops Q (o :: rest) a w := by
  refine wpList_plain hgd fun _ hK => ?_
  unfold Oper.wp execOp
  rw [ho]
  simp only [List.map_toArray, List.map_cons, List.map_nil, hx, Sem.run_bind, run_oneT w st et k bytes Z L hst hi hk0 hk1 hL, Result.andThen_ok, Sem.run_pure, Oper.upon_value]
  exact hK _ _ h
theorem ownT_lower {B B' : Nat} {t : TypeId} {k n : Nat} {v : Value} {cs : List Value} (h : w.ownsRow B t k v n cs) (hb : B' ≤ B) : w.ownsRow B' t k v n cs := by
  refine ⟨h.1, ?_⟩
  rcases h.2 with q | ⟨g, c, cur, e, hg, r⟩
  · exact .inl q
  · exact .inr ⟨g, c, cur, e, Nat.le_trans hb hg, r⟩
/-- One thing reads so. -/
theorem rdT_one (w : World) (et : TypeId) (L : List Value) (k : Nat) (hL : L.length = k) : RdT k (w.alloc (.cells L.toArray et)) (.slice (some ⟨w.heap.size, 0, none⟩) 1 1) 1 L := by
  refine ⟨by rw [hL]; omega, .inr ⟨_, 1, rfl, Nat.le_refl _, fun j u hu => ?_⟩⟩
  rw [Addr.add_mid, Nat.zero_add]
  exact (Blk.new w et L _ rfl).cell j u hu
end
def zref : List Value := .int .u32 0 :: row8 (List.replicate 32 0)
theorem infoRef : (Tryd.prog.info? 45).map (fun i => (i.zero, i.size, i.bytes)) = some (some (.agg zref.toArray), 33, 36) := by kernel_rfl
theorem zeroRt (w : World) : (zeroValue 27).run Tryd.prog w = .ok (.agg (rtc zero (.slice none 0 0)).toArray) w := by kernel_rfl
theorem infoRtC : (Tryd.prog.info? 27).map (·.size) = some 68 := by kernel_rfl
theorem rtc_one {r : Rt} (a : Option Addr) (n c : Nat) : (rtc r (.slice a n c)).toArray.all (·.oneCell') = true := by
  rw [List.all_toArray, List.all_eq_true]
  intro u hu
  unfold rtc at hu
  simp only [List.mem_cons, List.mem_append, List.mem_nil_iff, or_false] at hu
  rcases hu with rfl | h | rfl | h | rfl | rfl
  · rfl
  · exact row8_one' _ u h
  · rfl
  · exact row8_one' _ u h
  · rfl
  · rfl
/-- The refs of a root stored. -/
theorem rtc_set67 {r : Rt} (h : Ok r) (v u : Value) : (rtc r v).set 67 u = rtc r u := by
  have e : ∀ x, rtc r x = (Value.int .u64 (r.ver : Int) :: (row8 r.sup ++ (.int .i64 r.area :: (row8 r.keys ++ [.int .i64 r.len])))) ++ [x] := fun x => by unfold rtc; simp
  have hl : (Value.int .u64 (r.ver : Int) :: (row8 r.sup ++ (.int .i64 r.area :: (row8 r.keys ++ [.int .i64 r.len])))).length = 67 := by
    simp only [List.length_cons, List.length_append, row8_len, h.sup.1, h.keys.1, List.length_nil]
  rw [e v, e u, List.set_append_right _ _ (by rw [hl]; decide), hl]; rfl
set_option maxRecDepth 100000 in
set_option maxHeartbeats 2000000 in
theorem rrcopy_any (r : Rt) (hr : RT.Ok r) (v : Value) (w : World) (hv : RdT 33 w v r.pages.length (pcs r.pages)) (hf : r.pages.length ≤ 3909374676536) : Calls Tryd.prog 10 #[.agg (rtc r v).toArray] w fun e w' => ∃ u, e = .returned (.agg (rtc r u).toArray) ∧ w'.ownsRow w.heap.size 45 33 u r.pages.length (pcs r.pages) ∧ Below w.heap.size w w' := by
  obtain ⟨pa, pcap, rfl, _⟩ := hv.shape
  obtain ⟨n, hn⟩ : ∃ n, n = r.pages.length := ⟨_, rfl⟩
  obtain ⟨L, hL⟩ : ∃ L, L = rtc r (.slice pa r.pages.length pcap) := ⟨_, rfl⟩
  obtain ⟨Z0, hZ0⟩ : ∃ L, L = rtc zero (.slice none 0 0) := ⟨_, rfl⟩
  have hz : ∀ w, (zeroValue 27).run Tryd.prog w = .ok (.agg Z0.toArray) w := by rw [hZ0]; exact zeroRt
  have hz68 : Z0.length = 68 := by rw [hZ0]; exact rtc_len zero_ok _
  have L68 := Lib.hid (show L.length = 68 by rw [hL]; exact rtc_len hr _)
  have HSET := Lib.hid (fun a c => (show L.set 67 (.slice a n c) = rtc r (.slice a n c) by rw [hL]; exact rtc_set67 hr _ _))
  have HR68 := Lib.hid (fun u => (show (rtc r u).length = 68 from rtc_len hr u))
  have W2 := Lib.hid (((Below.refl w.heap.size w).alloc (Nat.le_refl _) (.cells L.toArray 27)).alloc (by simp) (.cells Z0.toArray 27))
  have X2 := Lib.hid ((Blk.new w 27 L _ rfl).alloc (.cells Z0.toArray 27))
  have Y2 := Lib.hid (Blk.new (w.alloc (.cells L.toArray 27)) 27 Z0 (w.heap.size + 1) (by simp))
  have HC := Lib.hid (show L[67]? = some (.slice pa r.pages.length pcap) by rw [hL]; exact rtc_pages hr _)
  have HV := Lib.hid hv
  have H1 := Lib.hid (pcs_one' r.pages)
  rw [← hL]
  obtain ⟨CS, hCS⟩ : ∃ c, c = pcs r.pages := ⟨_, rfl⟩
  rw [← hn, ← hCS] at HV ⊢
  rw [← hn] at HC hf
  rw [← hCS] at H1
  clear hn hL hZ0 hv hr hCS
  go_enter Tryd.func10, Tryd.ntmps10
  go_upto_region 1 with fail
  obtain ⟨w2, hw2⟩ : ∃ x, x = (w.alloc (.cells L.toArray 27)).alloc (.cells Z0.toArray 27) := ⟨_, rfl⟩
  rw [← hw2] at W2 X2 Y2 ⊢
  clear hw2
  have E2 := Lib.hid (ownT_empty w2 45 33 (b := w2.heap.size) rfl (B := w2.heap.size) (Nat.le_refl _))
  have bE := (Below.refl w2.heap.size w2).alloc (Nat.le_refl _) (.cells #[] 45)
  have WE := Lib.hid bE
  have c67 := (X2.out.below bE X2.out.lt).cell 67 _ HC.out
  have VE := Lib.hid (HV.out.below (W2.out.on bE))
  have SZ := Lib.hid (show w.heap.size + 2 ≤ w2.heap.size by have := Y2.out.lt; omega)
  clear bE
  go_upto_region 2 with (refine wpList_appTw rfl (.tmp 3) (.tmp 5) 25 45 33 36 zref rfl Tryd.underlying25 infoRef rfl (by decide) w2.heap.size (.slice (some ⟨w2.heap.size, 0, none⟩) 0 0) (.slice pa n pcap) 0 n [] CS rfl rfl E2.out VE.out H1.out (by omega) (by omega) WE.out.size ?_; intro v3 w3 o3 g3 k3; rw [List.nil_append, Nat.zero_add] at o3; obtain ⟨a3, q3, hsh, _⟩ := (owned_rd o3).shape; subst hsh; have b3 := WE.out.grown g3 WE.out.size (fun g hg => Nat.le_of_eq (Option.some.inj hg)); have O3 := Lib.hid o3; have W3 := Lib.hid (W2.out.on b3); have X3 := Lib.hid (X2.out.below b3 X2.out.lt); have Y3 := Lib.hid (Y2.out.below b3 Y2.out.lt); have d67 := X3.out.cell 67 _ HC.out; have f67 := X3.out.free 67; clear o3 g3 k3 b3 c67)
  have X4 := Lib.hid (show Blk (w3.setCell ⟨w.heap.size, 67, none⟩ (.slice a3 n q3)) w.heap.size 27 (rtc r (.slice a3 n q3)) by
    have h := X3.out.set 67 (.slice a3 n q3)
    rw [HSET.out] at h; exact h)
  have g4 := grownBy_cell w3 w.heap.size 67 (.slice a3 n q3)
  have Y4 := Lib.hid (Y3.out.grown g4 (by simp))
  have W4 := Lib.hid (W3.out.setCell (show w.heap.size ≤ w.heap.size from Nat.le_refl _) (.slice a3 n q3) (p := ⟨w.heap.size, 67, none⟩))
  have O4 := Lib.hid (show (w3.setCell ⟨w.heap.size, 67, none⟩ (.slice a3 n q3)).ownsRow w2.heap.size 45 33 (.slice a3 n q3) n CS from World.ownsRow.kept O3.out g4 (by
    cases e : (Value.slice a3 n q3).ownBlock with
    | none => exact .inl rfl
    | some g => exact .inr (fun q => by have := (World.ownsRow.lt O3.out g e).1; have := Option.some.inj q; have := SZ.out; omega)))
  obtain ⟨w4, hw4⟩ : ∃ x, x = w3.setCell ⟨w.heap.size, 67, none⟩ (.slice a3 n q3) := ⟨_, rfl⟩
  rw [← hw4] at X4 Y4 W4 O4 ⊢
  obtain ⟨R, hR⟩ : ∃ R, R = rtc r (.slice a3 n q3) := ⟨_, rfl⟩
  have R68 := Lib.hid (show R.length = 68 by rw [hR]; exact HR68.out _)
  have HRR := Lib.hid hR
  have RONE := Lib.hid (show R.toArray.all (·.oneCell') = true by rw [hR]; exact rtc_one _ _ _)
  rw [← hR] at X4
  clear hw4 hR g4 d67 f67
  go_wp2_with ((fail_if_success (with_reducible show bodyPost _ _ _ _ _ _)); first
    | (refine wpList_load_mid rfl 27 (.tmp 1) rfl w.heap.size 0 rfl R _ X4.out.range Tryd.underlying27 rfl (by rw [R68.out]; exact infoRtC) ?_)
    | (refine wpList_store_blk rfl 27 (.tmp 2) (.tmp 8) rfl (w.heap.size + 1) 0 R rfl rfl 27 Z0 Y4.out (by rw [R68.out, hz68]; exact Nat.le_refl _) (by rw [R68.out]; exact infoRtC) RONE.out ?_; intro w5 b5 g5; rw [splice_all _ _ (by rw [R68.out, hz68])] at b5; have Y5 := Lib.hid b5; have W5 := Lib.hid (W4.out.grown g5 W4.out.size (fun g hg => by have := Option.some.inj hg; omega)); have O5 := Lib.hid (World.ownsRow.kept O4.out g5 (by
        cases e : (Value.slice a3 n q3).ownBlock with
        | none => exact .inl rfl
        | some g => exact .inr (fun q => by have := (World.ownsRow.lt O4.out g e).1; have := Option.some.inj q; have := SZ.out; omega))); clear b5 g5))
  refine bodyPost_ret (results_mid rfl _ _ (w.heap.size + 1) R _ rfl Y5.out.range Tryd.underlying27 rfl (by rw [R68.out]; exact infoRtC)) rfl ⟨.slice a3 n q3, by rw [HRR.out], ownT_lower O5.out (by have := SZ.out; omega), W5.out⟩
end Go.Proofs.YtenigdbnfepkeaaDoor
/- What is read of a root, on numbers; the document's Put in both its ways, its Number without a fault; cells of a root that are stored one after another. Own work. -/
namespace Go.Proofs.YtenigdbnfepkeaaDoor
open Go.ChangeShapes Go.WideShapes Go.ChangeAt Go.RowKit
namespace RT
def sealed (b key : List Nat) : Bool := decide (SM.mac key (b.take 480) = b.drop 480)
def okG (b key : List Nat) : Bool := decide (b.length = 512) && (sealed b key && (may (reads b) && decide (lay (reads b) key = b)))
def gerr (b key : List Nat) : Int := if b.length = 512 then if sealed b key = true then if okG b key = true then 0 else 4 else 40 else 4
def got (b key : List Nat) : Rt := if okG b key = true then reads b else zero
theorem got_short {b : List Nat} (h : b.length ≠ 512) (key : List Nat) : got b key = zero ∧ gerr b key = 4 := by
  have e : okG b key = false := by unfold okG; rw [decide_eq_false h]; rfl
  unfold got gerr
  rw [e, if_neg h]; exact ⟨rfl, rfl⟩
theorem got_open {b key : List Nat} (h : b.length = 512) (hs : sealed b key = false) : got b key = zero ∧ gerr b key = 40 := by
  have e : okG b key = false := by unfold okG; rw [hs]; simp
  unfold got gerr
  rw [e, if_pos h, hs]; exact ⟨rfl, rfl⟩
theorem got_bad {b key : List Nat} (h : b.length = 512) (hs : sealed b key = true) (hm : may (reads b) = false ∨ lay (reads b) key ≠ b) : got b key = zero ∧ gerr b key = 4 := by
  have e : okG b key = false := by
    unfold okG
    rcases hm with q | q
    · rw [q]; simp
    · rw [decide_eq_false q]; simp
  unfold got gerr
  rw [e, if_pos h, hs]; exact ⟨rfl, rfl⟩
theorem got_yes {b key : List Nat} (h : b.length = 512) (hs : sealed b key = true) (hm : may (reads b) = true) (hl : lay (reads b) key = b) : got b key = reads b ∧ gerr b key = 0 := by
  have e : okG b key = true := by unfold okG; rw [decide_eq_true h, hs, hm, decide_eq_true hl]; rfl
  unfold got gerr
  rw [e, if_pos h, hs]; exact ⟨rfl, rfl⟩
theorem cut_bytes {b : List Nat} {n : Nat} (h : Bytes n b) (o m : Nat) (hm : o + m ≤ n) : Bytes m ((b.drop o).take m) :=
  ⟨by rw [List.length_take, List.length_drop, h.1]; omega, fun j => gb_take_byte _ _ (fun k => by rw [gb_drop]; exact h.2 _) j⟩
theorem pgAt_ok {b : List Nat} (h : Bytes 512 b) {i : Nat} (hi : i < 9) : Pok (pgAt b i) := by
  refine ⟨?_, cut_bytes h (84 + i * 36) 32 (by omega)⟩
  have c := cut_bytes h (80 + i * 36) 4 (by omega)
  exact num_le _ c.2 4 (by rw [c.1]; exact Nat.le_refl _)
/-- The pages that are read. -/
def pgs (b : List Nat) (k : Nat) : List Pg := (List.range k).map (pgAt b)
theorem pgs_len (b : List Nat) (k : Nat) : (pgs b k).length = k := by unfold pgs; simp
theorem pgs_ok {b : List Nat} (h : Bytes 512 b) {k : Nat} (hk : k ≤ 9) : ∀ p ∈ pgs b k, Pok p := fun p hp => by
  unfold pgs at hp
  obtain ⟨i, hi, rfl⟩ := List.mem_map.1 hp
  exact pgAt_ok h (by have := List.mem_range.1 hi; omega)
theorem pgs_next (b : List Nat) (k : Nat) : pcs (pgs b (k + 1)) = pcs (pgs b k) ++ pc (pgAt b k) := by
  unfold pgs
  rw [List.range_succ, List.map_append, pcs_app]
  congr 1
  exact pcs_one _
theorem reads_ok {b : List Nat} (h : Bytes 512 b) : Ok (reads b) := by
  have c8 := cut_bytes h 4 8 (by decide)
  have c2 := cut_bytes h 77 2 (by decide)
  have n8 := num_le _ c8.2 8 (by rw [c8.1]; exact Nat.le_refl _)
  have n2 := num_le _ c2.2 2 (by rw [c2.1]; exact Nat.le_refl _)
  have h44 := h.2 44
  refine ⟨n8, cut_bytes h 12 32 (by decide), ?_, cut_bytes h 45 32 (by decide), ?_, pgs_ok h (Nat.min_le_right _ _)⟩
  · show -9223372036854775808 ≤ ((gb b 44 : Nat) : Int) ∧ ((gb b 44 : Nat) : Int) ≤ 9223372036854775807
    omega
  · show -9223372036854775808 ≤ ((num ((b.drop 77).take 2) : Nat) : Int) ∧ ((num ((b.drop 77).take 2) : Nat) : Int) ≤ 9223372036854775807
    omega
/-- What is left of the body when o bytes of it are read. -/
theorem rest_take {b : List Nat} (o n : Nat) (h : o + n ≤ 480) : ((b.take 480).drop o).take n = (b.drop o).take n := by
  rw [List.drop_take, List.take_take, Nat.min_eq_left (by omega)]
theorem rest_len {b : List Nat} (h : b.length = 512) (o : Nat) : ((b.take 480).drop o).length = 480 - o := by rw [List.length_drop, List.length_take, h]; rfl
theorem rtc_set0 (r : Rt) (v : Value) (n : Nat) : (rtc r v).set 0 (.int .u64 (n : Int)) = rtc { r with ver := n } v := rfl
theorem rtc_app (r : Rt) (v : Value) : rtc r v = (Value.int .u64 (r.ver : Int) :: row8 r.sup) ++ (.int .i64 r.area :: (row8 r.keys ++ [.int .i64 r.len, v])) := by unfold rtc; simp
theorem rtc_sup_put {r : Rt} (h : r.sup.length = 32) {K : List Nat} (hK : Bytes 32 K) (v : Value) : splice (rtc r v) 1 (row8 K) = rtc { r with sup := K } v := by
  have e : (row8 r.sup).length = 32 := by rw [row8_len]; exact h
  have e2 : (row8 K).length = 32 := by rw [row8_len]; exact hK.1
  unfold splice rtc
  rw [e2]
  show (_ :: []) ++ (_ ++ List.drop 32 (_ ++ _)) = _
  rw [List.drop_left' e]
  rfl
theorem rtc_area_put {r : Rt} (h : r.sup.length = 32) (v : Value) (n : Int) : (rtc r v).set 33 (.int .i64 n) = rtc { r with area := n } v := by
  have e : (Value.int .u64 (r.ver : Int) :: row8 r.sup).length = 33 := by rw [List.length_cons, row8_len, h]
  rw [rtc_app, rtc_app, List.set_append_right _ _ (by rw [e]; decide), e]
  rfl
theorem rtc_keys_put {r : Rt} (h : r.sup.length = 32) (h2 : r.keys.length = 32) {K : List Nat} (hK : Bytes 32 K) (v : Value) : splice (rtc r v) 34 (row8 K) = rtc { r with keys := K } v := by
  have e : (Value.int .u64 (r.ver : Int) :: (row8 r.sup ++ [Value.int .i64 r.area])).length = 34 := by simp [row8_len, h]
  have e1 : (row8 r.keys).length = 32 := by rw [row8_len]; exact h2
  have e2 : (row8 K).length = 32 := by rw [row8_len]; exact hK.1
  have q : rtc r v = (Value.int .u64 (r.ver : Int) :: (row8 r.sup ++ [Value.int .i64 r.area])) ++ (row8 r.keys ++ [.int .i64 r.len, v]) := by unfold rtc; simp
  unfold splice
  rw [e2, q, List.take_left' e, ← List.drop_drop, List.drop_left' e, List.drop_left' e1]
  unfold rtc; simp
theorem rtc_len_put {r : Rt} (h : r.sup.length = 32) (h2 : r.keys.length = 32) (v : Value) (n : Int) : (rtc r v).set 66 (.int .i64 n) = rtc { r with len := n } v := by
  have e : (Value.int .u64 (r.ver : Int) :: (row8 r.sup ++ (Value.int .i64 r.area :: row8 r.keys))).length = 66 := by simp [row8_len, h, h2]
  have q : ∀ m, rtc { r with len := m } v = (Value.int .u64 (r.ver : Int) :: (row8 r.sup ++ (Value.int .i64 r.area :: row8 r.keys))) ++ [.int .i64 m, v] := fun m => by unfold rtc; simp
  rw [show rtc r v = rtc { r with len := r.len } v from rfl, q, q, List.set_append_right _ _ (by rw [e]; decide), e]
  rfl
end RT
open RT
theorem rrput_any (r : Rt) (hr : RT.Ok r) (key : List Nat) (hkey : Bytes 32 key) (v : Value) (w : World) (hv : RdT 33 w v r.pages.length (pcs r.pages)) (ht : Tab w) : Calls Tryd.prog 12 #[.agg (rtc r v).toArray, .agg (row8 key).toArray] w fun e w' => ∃ u, e = .returned (.tuple #[u, .int .i64 (perr r)]) ∧ Own w' w.heap.size u (put r key) ∧ Below w.heap.size w w' := by
  cases h : may r with
  | false =>
    refine (rrput_no r hr key v w hv h).mono ?_
    rintro e w' ⟨rfl, b⟩
    rw [(put_no h key).1, (put_no h key).2]
    exact ⟨_, rfl, ⟨⟨rfl, .inl ⟨rfl, rfl⟩⟩, fun k => by rw [gb_nil]; omega, by simp⟩, b⟩
  | true =>
    rw [(put_yes h key).1, (put_yes h key).2]
    exact rrput_ok r hr key hkey v w hv ht h
theorem rrnum_any (w : World) (sv : Value) (l : List Nat) (h : Rd w sv l) (n : Nat) (hl : n ≤ l.length) : Calls Tryd.prog 28 #[refv sv 0, .int .i64 (n : Int)] w fun e w' => ∃ sv', e = .returned (.tuple #[refv sv' 0, .int .u64 (num (l.take n) : Nat)]) ∧ (∀ W, Rd W sv l → Rd W sv' (l.drop n)) ∧ Below w.heap.size w w' := by
  obtain ⟨h1, h2, h3⟩ := rp_read (l := l) (m := n) hl
  have q := refNumber_any w sv l 0 (n : Int) h (fun e => absurd rfl e)
  rw [h1, h2, h3] at q
  exact q
/-- One cell stored into a block. -/
theorem wpList_put1R {P : Program} {ops : Array Oper} {rest : List Oper} {o : Oper} {a : Act} {w : World} {Q : Exit → Act → World → Prop} (hgd : o.guard = none) (ty : TypeId) (p x : Operand) (ho : o.op = .store ty p x) (b k : Nat) (u : Value) (hp : a.eval p = .pointer (some ⟨b, k, none⟩)) (hx : a.eval x = u) (t : TypeId) (cs : List Value) (hb : Blk w b t cs) (hk : k < cs.length)
    (hz : (P.info? ty).map (·.size) = some 1) (hc : u.cells = #[u]) (h1 : u.oneCell' = true) (h : ∀ w', Blk w' b t (cs.set k u) → w.grownBy w' (some b) → wpList P ops Q rest (a.put o.dst undef) w') : wpList P ops Q (o :: rest) a w := by
  refine wpList_plain hgd fun _ hK => ?_
  have hr := run_store_one (P := P) w b k ty u hc (there_part hb k 1 (by omega)) hz h1
  unfold Oper.wp execOp
  simp only [ho, hp, hx, Sem.run_bind, hr, Result.andThen_ok, Sem.run_pure]
  exact hK _ _ (h _ (hb.set k u) (grownBy_cell w b k u))
end Go.Proofs.YtenigdbnfepkeaaDoor
/- What stands while a root is read by the document's answer; its reader's steps. Own work. -/
namespace Go.Proofs.YtenigdbnfepkeaaDoor
open Go.ChangeShapes Go.WideShapes Go.ChangeAt Go.RowKit
open RT
theorem builtRt : Tryd.prog.built 27 [] = some (rtc zero (.slice none 0 0)).toArray := by kernel_rfl
theorem num_at {b : List Nat} {o : Nat} (h : o < b.length) : num ((b.drop o).take 1) = gb b o := by
  have hl : 0 < (b.drop o).length := by rw [List.length_drop]; omega
  have q := (one_left hl).2.2
  have e := (rp_read (l := b.drop o) (m := 1) hl).1
  rw [show ((1 : Nat) : Int) = 1 from rfl] at e
  rw [e, gb_drop] at q
  exact q
theorem rnum_at {b : List Nat} (hb : b.length = 512) (w W : World) (hW : Below w.heap.size w W) (sv : Value) (o n o' m : Nat) (h1 : o' = o + n) (h2 : o' + m = 480) (hs : Rd w sv ((b.take 480).drop o)) : Calls Tryd.prog 28 #[refv sv 0, .int .i64 (n : Int)] W fun e w' => ∃ a c, e = .returned (.tuple #[refv (.slice a m c) 0, .int .u64 (num ((b.drop o).take n) : Nat)]) ∧ Rd w (.slice a m c) ((b.take 480).drop o') ∧ Below W.heap.size W w' := by
  subst h1
  refine (rrnum_any W sv _ (hs.below hW) n (by rw [rest_len hb]; omega)).mono ?_
  rintro e w' ⟨sv', rfl, q, bb⟩
  have s := q w hs
  rw [List.drop_drop] at s
  obtain ⟨a, c, rfl, _⟩ := s.shape
  have e : ((b.take 480).drop (o + n)).length = m := by rw [rest_len hb]; omega
  rw [e] at s ⊢
  rw [rest_take o n (by omega)]
  exact ⟨a, c, rfl, s, bb⟩
theorem rsum_at {b : List Nat} (hb : b.length = 512) (w W : World) (hW : Below w.heap.size w W) (sv : Value) (o o' m : Nat) (h1 : o' = o + 32) (h2 : o' + m = 480) (hs : Rd w sv ((b.take 480).drop o)) : Calls Tryd.prog 29 #[refv sv 0] W fun e w' => ∃ a c, e = .returned (.tuple #[refv (.slice a m c) 0, .agg (row8 ((b.drop o).take 32)).toArray]) ∧ Rd w (.slice a m c) ((b.take 480).drop o') ∧ Below W.heap.size W w' := by
  subst h1
  refine (rrsum_any W sv _ (hs.below hW) (by rw [rest_len hb]; omega)).mono ?_
  rintro e w' ⟨sv', rfl, q, bb⟩
  have s := q w hs
  rw [List.drop_drop] at s
  obtain ⟨a, c, rfl, _⟩ := s.shape
  have e : ((b.take 480).drop (o + 32)).length = m := by rw [rest_len hb]; omega
  rw [e] at s ⊢
  rw [rest_take o 32 (by omega)]
  exact ⟨a, c, rfl, s, bb⟩
theorem page_put (n : Nat) {K : List Nat} (hK : Bytes 32 K) : splice (zref.set 0 (.int .u32 (n : Int))) 1 (row8 K) = .int .u32 (n : Int) :: row8 K := by
  have e : (row8 K).length = 32 := by rw [row8_len]; exact hK.1
  have e2 : (row8 (List.replicate 32 0)).length = 32 := by rw [row8_len, List.length_replicate]
  unfold splice zref
  rw [e]
  show [Value.int .u32 (n : Int)] ++ (row8 K ++ List.drop 32 (row8 (List.replicate 32 0))) = _
  rw [List.drop_of_length_le (by rw [e2]; exact Nat.le_refl _), List.append_nil]
  rfl
theorem zref_len : zref.length = 33 := by unfold zref; rw [List.length_cons, row8_len, List.length_replicate]
theorem zeroRef (w : World) : (zeroValue 45).run Tryd.prog w = .ok (.agg zref.toArray) w := by kernel_rfl
theorem infoRef33 : (Tryd.prog.info? 45).map (·.size) = some 33 := by kernel_rfl
theorem infoInt1 : (Tryd.prog.info? 3).map (·.size) = some 1 := by kernel_rfl
theorem infoU641 : (Tryd.prog.info? 22).map (·.size) = some 1 := by kernel_rfl
theorem infoU321 : (Tryd.prog.info? 43).map (·.size) = some 1 := by kernel_rfl
theorem infoRefs1 : (Tryd.prog.info? 25).map (·.size) = some 1 := by kernel_rfl
theorem ownsT_on {W W' : World} {B k n : Nat} {t : TypeId} {v : Value} {cs : List Value} (h : W.ownsRow B t k v n cs) (hb : Below W.heap.size W W') : W'.ownsRow B t k v n cs := World.ownsRow.kept h (grown_of_below hb none) (own_none v)
/-- What is not at one of the blocks below B is not turned when one of them is. -/
theorem ownsT_turn {W W' : World} {B k n c : Nat} {t : TypeId} {v : Value} {cs : List Value} (h : W.ownsRow B t k v n cs) (g : W.grownBy W' (some c)) (hc : c < B ∨ W.heap.size ≤ c) : W'.ownsRow B t k v n cs := World.ownsRow.kept h g (by
  cases e : v.ownBlock with
  | none => exact .inl rfl
  | some q => exact .inr (fun x => by have := World.ownsRow.lt h q e; have := Option.some.inj x; omega))
theorem ownsT_turn2 {W0 W W' : World} {B k n c : Nat} {t : TypeId} {v : Value} {cs : List Value} (h0 : W0.ownsRow B t k v n cs) (h : W.ownsRow B t k v n cs) (g : W.grownBy W' (some c)) (hc : W0.heap.size ≤ c) : W'.ownsRow B t k v n cs := World.ownsRow.kept h g (by
  cases e : v.ownBlock with
  | none => exact .inl rfl
  | some q => exact .inr (fun x => by have := World.ownsRow.lt h0 q e; have := Option.some.inj x; omega))
theorem ones_byte : ∀ (ps : List Pg), (∀ p ∈ ps, Pok p) → ∀ k, gb (ones ps) k < 256 := by
  intro ps
  induction ps with
  | nil => intro _ k; show gb [] k < 256; rw [gb_nil]; omega
  | cons a r ih =>
    intro h k
    show gb (one a ++ ones r) k < 256
    exact gb_app _ _ (fun j => gb_app _ _ (be_byte _ _) (h a (by simp)).2.2 j) (ih (fun p hp => h p (by simp [hp]))) k
theorem lay_byte {r : Rt} (hr : RT.Ok r) (hm : may r = true) (key : List Nat) (k : Nat) : gb (lay r key) k < 256 := by
  obtain ⟨m1, m2, m3, m4, _⟩ := may_iff.1 hm
  have s : ∀ x, x < 256 → ∀ k, gb [x] k < 256 := fun x hx k => by
    cases k with
    | zero => exact hx
    | succ k => exact Nat.zero_lt_succ _
  unfold lay
  refine gb_app _ _ (fun j => ?_) (sha_bytes _).2 k
  unfold body
  refine padTo_byte _ _ (fun j => ?_) j
  unfold raw
  refine gb_app _ _ (fun j => ?_) (ones_byte _ hr.pages) j
  unfold pre
  refine gb_app _ _ (gb_app _ _ (gb_app _ _ (gb_app _ _ (gb_app _ _ (gb_app _ _ ?_ (be_byte _ _)) hr.sup.2) (s _ (by omega))) hr.keys.2) (be_byte _ _)) (s _ (by omega)) j
  exact small_bytes (by decide)
/-- What stands while a root is read. -/
structure GI (w : World) (KC Z0 : List Value) (xb : Nat) (X : List Value) (sv : Value) (W : World) : Prop where
  bel : Below w.heap.size w W
  key : Blk W w.heap.size 28 KC
  res : Blk W (w.heap.size + 1) 27 Z0
  x : Blk W xb 27 X
  rd : Blk W (xb + 1) 65 [sv, .int .i64 0]
  lo : w.heap.size + 2 ≤ xb
section
variable {w W W' : World} {KC Z0 X X' : List Value} {xb : Nat} {sv sv' : Value}
theorem GI.on (h : GI w KC Z0 xb X sv W) (hb : Below W.heap.size W W') : GI w KC Z0 xb X sv W' :=
  ⟨h.bel.on hb, h.key.below hb h.key.lt, h.res.below hb h.res.lt, h.x.below hb h.x.lt, h.rd.below hb h.rd.lt, h.lo⟩
theorem GI.other {row : Option Nat} (h : GI w KC Z0 xb X sv W) (g : W.grownBy W' row) (hc : ∀ c, row = some c → xb + 1 < c) : GI w KC Z0 xb X sv W' := by
  have hl := h.lo
  have ne : ∀ k, k ≤ xb + 1 → some k ≠ row := fun k hk e => by have := hc k e.symm; omega
  exact ⟨h.bel.grown g h.bel.size (fun c e => by have := hc c e; omega), h.key.grown g (ne _ (by omega)), h.res.grown g (ne _ (by omega)), h.x.grown g (ne _ (by omega)), h.rd.grown g (ne _ (by omega)), hl⟩
theorem GI.putX (h : GI w KC Z0 xb X sv W) (g : W.grownBy W' (some xb)) (hb : Blk W' xb 27 X') : GI w KC Z0 xb X' sv W' := by
  have hl := h.lo
  have ne : ∀ k, k ≠ xb → some k ≠ some xb := fun k hk e => hk (Option.some.inj e)
  exact ⟨h.bel.grown g h.bel.size (fun c e => by have := Option.some.inj e; omega), h.key.grown g (ne _ (by omega)), h.res.grown g (ne _ (by omega)), hb, h.rd.grown g (ne _ (by omega)), hl⟩
theorem GI.putR (h : GI w KC Z0 xb X sv W) (g : W.grownBy W' (some (xb + 1))) (hb : Blk W' (xb + 1) 65 [sv', .int .i64 0]) : GI w KC Z0 xb X sv' W' := by
  have hl := h.lo
  have ne : ∀ k, k ≠ xb + 1 → some k ≠ some (xb + 1) := fun k hk e => hk (Option.some.inj e)
  exact ⟨h.bel.grown g h.bel.size (fun c e => by have := Option.some.inj e; omega), h.key.grown g (ne _ (by omega)), h.res.grown g (ne _ (by omega)), h.x.grown g (ne _ (by omega)), hb, hl⟩
end
end Go.Proofs.YtenigdbnfepkeaaDoor
