/- Texts of one subject in one file: SlPutR, SlGetN. Own work. -/
import Derived.Test.YtbepchikngoknaaDoorSlN
import Derived.Test.YtbepchikngoknaaDoorSlZ
import Derived.Test.YtbepchikngoknaaDoorFillTo
import Derived.Test.YtbepchikngoknaaDoorApp0
import Derived.Test.YtbepchikngoknaaDoorOct
import Derived.Test.YtbepchikngoknaaDoorFactX
import Derived.Test.YtbepchikngoknaaDoorFactsW
import Derived.Laws.BitsAllLaws
import Derived.Laws.Shifts
/- What is laid of a table of key slots: contract. Written by gen_slput.py. Own work. -/
namespace Go.Proofs.YtbepchikngoknaaDoor
open Go.ChangeShapes Go.WideShapes Go.ChangeAt Go.RowKit
open SL
/-- A byte and a number's bytes are made, in either order, and appended one after the other. -/
structure P9 (w1 : World) (B : Nat) (ov : Value) (l : List Nat) (u : Nat) (b : List Nat) (r : Told) (w : World) : Prop where
  grow : w1.grownBy w ov.ownBlock
  made : ∀ x, r 2 = some x → r 3 = none → Rd w x [u] ∧ ∀ g, x.ownBlock = some g → w1.heap.size ≤ g
  call : ∀ y, r 7 = some y → r 8 = none → Rd w y b ∧ ∀ g, y.ownBlock = some g → w1.heap.size ≤ g
  out0 : r 3 = none → Own w B ov l
  out1 : ∀ v, r 3 = some v → r 8 = none → Grew w1 B ov w v (l ++ [u])
  out2 : ∀ v, r 8 = some v → Grew w1 B ov w v (l ++ [u] ++ b)
theorem P9.zero {w w1 : World} {B : Nat} {ov : Value} {l : List Nat} {u : Nat} {b : List Nat} (h : w = w1) (o : Own w1 B ov l) : P9 w1 B ov l u b (fun _ => none) w := by
  subst h
  exact ⟨World.grownBy.refl _ _, nofun, nofun, fun _ => o, nofun, nofun⟩
section
variable {w1 w : World} {B : Nat} {ov : Value} {l : List Nat} {u : Nat} {b : List Nat} {r : Told}
theorem Grew.below {w' : World} {v : Value} {m : List Nat} (h : Grew w1 B ov w v m) (k : Below w.heap.size w w') : Grew w1 B ov w' v m := ⟨h.own.below k, only_trans h.grow (grown_of_below k _), h.from_⟩
theorem P9.byte (h : P9 w1 B ov l u b r w) (h3 : r 3 = none) (h8 : r 8 = none) (hu : ∀ k, gb [u] k < 256) : P9 w1 B ov l u b (r.set 2 (.slice (some ⟨w.heap.size, 0, none⟩) 1 1)) (w.alloc (.cells (row8 [u]).toArray 5)) := by
  have hb : Below w.heap.size w (w.alloc (.cells (row8 [u]).toArray 5)) := (Below.refl _ _).alloc (Nat.le_refl _) _
  have e3 : (r.set 2 (.slice (some ⟨w.heap.size, 0, none⟩) 1 1)) 3 = none := (Told.set_ne (by decide)).trans h3
  have e8 : (r.set 2 (.slice (some ⟨w.heap.size, 0, none⟩) 1 1)) 8 = none := (Told.set_ne (by decide)).trans h8
  have e7 : (r.set 2 (.slice (some ⟨w.heap.size, 0, none⟩) 1 1)) 7 = r 7 := Told.set_ne (by decide)
  refine ⟨only_trans h.grow (grown_of_below hb _), fun x hx _ => ?_, fun y hy _ => ?_, fun _ => (h.out0 h3).below hb, fun v hv => ?_, fun v hv => ?_⟩
  · rw [Told.set_same] at hx
    obtain rfl := Option.some.inj hx
    exact ⟨(own_new w [u] hu (by simp) (b := w.heap.size) rfl (base := w.heap.size) (Nat.le_refl _)).rd, fun g hg => by have e : w.heap.size = g := Option.some.inj hg; have := h.grow.size; omega⟩
  · rw [e7] at hy
    exact ⟨(h.call y hy h8).1.below hb, (h.call y hy h8).2⟩
  · rw [e3] at hv; cases hv
  · rw [e8] at hv; cases hv
theorem P9.first {w' : World} {v : Value} (h : P9 w1 B ov l u b r w) (h8 : r 8 = none) (hold : ∀ g, ov.ownBlock = some g → g < w1.heap.size) (o : Own w' B v (l ++ [u])) (g : w.grownBy w' ov.ownBlock) (k : v.ownBlock = ov.ownBlock ∨ v.ownBlock = some w.heap.size) : P9 w1 B ov l u b (r.set 3 v) w' := by
  have e8 : (r.set 3 v) 8 = none := (Told.set_ne (by decide)).trans h8
  have e7 : (r.set 3 v) 7 = r 7 := Told.set_ne (by decide)
  refine ⟨only_trans h.grow g, fun x _ hx => ?_, fun y hy _ => ?_, fun hx => ?_, fun x hx _ => ?_, fun x hx => ?_⟩
  · rw [Told.set_same] at hx; cases hx
  · rw [e7] at hy
    obtain ⟨hr, hn⟩ := h.call y hy h8
    refine ⟨hr.grown g ?_, hn⟩
    cases hyb : y.ownBlock with
    | none => exact .inl rfl
    | some j => exact .inr fun e => by have h1 := hold j e.symm; have h2 := hn j hyb; omega
  · rw [Told.set_same] at hx; cases hx
  · rw [Told.set_same] at hx
    obtain rfl := Option.some.inj hx
    exact ⟨o, only_trans h.grow g, fun q e => by
      rcases k with z | z
      · exact .inl (z ▸ e)
      · right; rw [z] at e; have := Option.some.inj e; have := h.grow.size; omega⟩
  · rw [e8] at hx; cases hx
theorem P9.called {w' : World} {v : Value} (h : P9 w1 B ov l u b r w) (h8 : r 8 = none) (o : Own w' w.heap.size v b) (k : Below w.heap.size w w') : P9 w1 B ov l u b (r.set 7 v) w' := by
  have e8 : (r.set 7 v) 8 = none := (Told.set_ne (by decide)).trans h8
  have e2 : (r.set 7 v) 2 = r 2 := Told.set_ne (by decide)
  have e3 : (r.set 7 v) 3 = r 3 := Told.set_ne (by decide)
  refine ⟨only_trans h.grow (grown_of_below k _), fun x hx hx3 => ?_, fun y hy _ => ?_, fun hx => (h.out0 (e3 ▸ hx)).below k, fun x hx _ => (h.out1 x (e3 ▸ hx) h8).below k, fun x hx => ?_⟩
  · rw [e2] at hx
    rw [e3] at hx3
    exact ⟨(h.made x hx hx3).1.below k, (h.made x hx hx3).2⟩
  · rw [Told.set_same] at hy
    obtain rfl := Option.some.inj hy
    exact ⟨o.rd, fun g hg => by have := (o.from g hg).1; have := h.grow.size; omega⟩
  · rw [e8] at hx; cases hx
theorem P9.second {w' : World} {v v0 : Value} (h : P9 w1 B ov l u b r w) (h3 : r 3 = some v0) (h8 : r 8 = none) (o : Own w' B v (l ++ [u] ++ b)) (g : w.grownBy w' v0.ownBlock) (k : v.ownBlock = v0.ownBlock ∨ v.ownBlock = some w.heap.size) : P9 w1 B ov l u b (r.set 8 v) w' := by
  have e3 : (r.set 8 v) 3 = r 3 := Told.set_ne (by decide)
  have hn := (h.out1 v0 h3 h8).next o g k
  refine ⟨hn.grow, fun x _ hx => ?_, fun y _ hy => ?_, fun hx => ?_, fun x _ hx => ?_, fun x hx => ?_⟩
  · rw [e3, h3] at hx; cases hx
  · rw [Told.set_same] at hy; cases hy
  · rw [e3, h3] at hx; cases hx
  · rw [Told.set_same] at hx; cases hx
  · rw [Told.set_same] at hx
    obtain rfl := Option.some.inj hx
    exact hn
end
/-- Three pieces appended one after another. -/
def A10 (w1 : World) (B : Nat) (ov : Value) (l1 l2 l3 : List Nat) : Nat → Told → World → Prop
  | 0, _, w => w = w1
  | 1, r, w => ∃ v, r 3 = some v ∧ Grew w1 B ov w v l1
  | 2, r, w => ∃ v, r 6 = some v ∧ Grew w1 B ov w v l2
  | _, r, w => ∃ v, r 9 = some v ∧ Grew w1 B ov w v l3
set_option maxRecDepth 100000 in
set_option maxHeartbeats 4000000 in
theorem rtput_any (T : List Slot) (hT : Tok T) (w : World) : Calls Tryd.prog 10 #[.agg (tbc T).toArray] w fun e w' => ∃ v, e = .returned v ∧ Own w' w.heap.size v (put T) ∧ Below w.heap.size w w' := by
  obtain ⟨L, hL⟩ : ∃ L, L = tbc T := ⟨_, rfl⟩
  obtain ⟨D1, hD1⟩ : ∃ D, D = slc none_ := ⟨_, rfl⟩
  have hz1 : ∀ w, (zeroValue 28).run Tryd.prog w = .ok (.agg D1.toArray) w := by rw [hD1]; exact zeroSl
  have hd1 : D1.length = 82 := by rw [hD1]; exact slc_len none_ok
  rw [← hL]
  have HT := Lib.hid hT
  have HL := Lib.hid hL
  clear hT hL hD1
  go_enter Tryd.func10, Tryd.ntmps10
  go_wp2_with fail
  have hb0 : Blk (w.alloc (.cells L.toArray 34)) w.heap.size 34 L := Blk.new _ _ _ _ rfl
  have hw0 : Below w.heap.size w (w.alloc (.cells L.toArray 34)) := (Below.refl _ _).alloc (Nat.le_refl _) _
  go_loopw [3, 4] (fun o i wr => ∃ k : Nat, k ≤ 8 ∧ i = .int .i64 (k : Int) ∧ Own wr (w.heap.size + 1) o (put (T.take k)) ∧ Blk wr w.heap.size 34 L ∧ Below w.heap.size w wr) (fun _ i _ => 8 - (intOf i).toNat)
  case atStart => exact ⟨0, by decide, rfl, ⟨World.ownsRow_nil _ _ _ _, fun k => by show gb (put []) k < 256; rw [put_nil, gb_nil]; decide, by show (put []).length ≤ _; rw [put_nil]; decide⟩, hb0, hw0⟩
  case round =>
    clear hb0 hw0
    obtain ⟨k, hk8, rfl, ho, hb, hbw⟩ := hrel
    have HSUB : ∀ s ∈ T.take k, Sok s := fun s hs => HT.out.ok s (List.mem_of_mem_take hs)
    have HPLEN := put_len HSUB
    rw [List.length_take, HT.out.len, Nat.min_eq_left hk8] at HPLEN
    obtain ⟨l, hl⟩ : ∃ l, l = put (T.take k) := ⟨_, rfl⟩
    rw [← hl] at ho HPLEN
    obtain ⟨oa, oc, rfl, _⟩ := ho.rd.shape
    obtain ⟨n, hn⟩ : ∃ n, n = l.length := ⟨_, rfl⟩
    rw [← hn] at ho HPLEN ⊢
    have HLN := Lib.hid hn
    have HLL := Lib.hid hl
    have O := Lib.hid ho
    have TR := Lib.hid hb
    have WR := Lib.hid hbw
    have hn4 : n ≤ 1024 := by omega
    clear ho hb hbw hn hl HSUB HPLEN
    by_cases hlt : k < 8
    · have HSTEP := Lib.hid (put_take HT.out hlt)
      have HS := Lib.hid (HT.out.at_ hlt)
      have HRG := Lib.hid (show wr.rangeAt w.heap.size (k * 82) (slc (at_ T k)) by
        have h := TR.out; rw [HL.out] at h; exact h.slot HT.out hlt)
      have S82 := Lib.hid (slc_len HS.out)
      have SONE := Lib.hid (slc_all (at_ T k))
      obtain ⟨s, hs⟩ : ∃ s, s = at_ T k := ⟨_, rfl⟩
      rw [← hs] at HSTEP HS HRG S82 SONE
      obtain ⟨salt, hsalt⟩ : ∃ n, n = s.salt := ⟨_, rfl⟩
      obtain ⟨sld, hsld⟩ : ∃ n, n = s.sld := ⟨_, rfl⟩
      obtain ⟨chk, hchk⟩ : ∃ n, n = s.chk := ⟨_, rfl⟩
      obtain ⟨tn, htn⟩ : ∃ n, n = s.turns := ⟨_, rfl⟩
      obtain ⟨u, hu⟩ : ∃ u, u = s.used := ⟨_, rfl⟩
      obtain ⟨SC, hSC⟩ : ∃ C, C = slc s := ⟨_, rfl⟩
      have HSL := Lib.hid (show Bytes 16 salt by rw [hsalt]; exact HS.out.salt)
      have HSD := Lib.hid (show Bytes 32 sld by rw [hsld]; exact HS.out.sld)
      have HSC := Lib.hid (show Bytes 32 chk by rw [hchk]; exact HS.out.chk)
      have htb : tn < 65536 := by rw [htn]; exact HS.out.turns
      have HRS := Lib.hid (fun W (h : Blk W wr.heap.size 28 SC) => (show Rd W (.slice (some ⟨wr.heap.size, 2, none⟩) 16 16) salt ∧ Rd W (.slice (some ⟨wr.heap.size, 18, none⟩) 32 32) sld ∧ Rd W (.slice (some ⟨wr.heap.size, 50, none⟩) 32 32) chk by
        rw [hSC] at h; rw [hsalt, hsld, hchk]; exact ⟨h.rdSalt HS.out, h.rdSld HS.out, h.rdChk HS.out⟩))
      have HTN := Lib.hid (fun W (h : Blk W wr.heap.size 28 SC) => (show W.cell? ⟨wr.heap.size, 1, none⟩ = some (.int .u16 (tn : Int)) from h.cell 1 _ (by rw [hSC, htn]; rfl)))
      have hc0 : ∀ W b, Blk W b 28 SC → W.cell? ⟨b, 0, none⟩ = some (.bool u) := fun W b h => h.cell 0 _ (by rw [hSC, hu]; rfl)
      have HC0 := Lib.hid hc0
      have HNUM := Lib.hid (fun W => rput_any tn 2 (by omega) (by decide) W)
      have HLY := Lib.hid (show lay s = bit s :: (be tn 2 ++ (salt ++ (sld ++ (chk ++ List.replicate 45 0)))) by rw [hsalt, hsld, hchk, htn]; rfl)
      rw [← hSC] at HRG S82 SONE
      have aw : IntKind.u64.wrap (tn : Int) = (tn : Int) := by rw [IntKind.wrap_u64]; omega
      have hklt : (k : Int) < 8 := by omega
      obtain ⟨bt, hbt⟩ : ∃ n, n = bit s := ⟨_, rfl⟩
      rw [HLY.out, ← hbt] at HSTEP
      have HBV := Lib.hid (show bt = if u then 1 else 0 by rw [hbt, hu]; rfl)
      clear hc0 hs hSC hsalt hsld hchk htn hu hbt HLY
      cases u with
      | false =>
        have HBIT := Lib.hid (show bt = 0 from HBV.out)
        go_upto_region 9 with (first
          | (refine wpList_load_mid rfl 28 (.tmp 12) rfl w.heap.size (k * 82) rfl SC _ HRG.out Tryd.underlying28 rfl (by rw [S82.out]; exact infoSl) ?_)
          | (refine wpList_store_blk rfl 28 (.tmp 5) (.tmp 13) rfl wr.heap.size 0 SC rfl rfl 28 D1 (Blk.new wr 28 D1 _ rfl) (by rw [S82.out, hd1]; exact Nat.le_refl _) (by rw [S82.out]; exact infoSl) SONE.out ?_; intro w3 b3 g3; rw [splice_all _ _ (by rw [S82.out, hd1])] at b3; have S3 := Lib.hid b3; have B3 := Lib.hid (alloc_turn (Below.refl _ _) g3); have c0 := HC0.out _ _ b3; clear b3 g3))
        obtain ⟨sb, hsb⟩ : ∃ b, b = wr.heap.size := ⟨_, rfl⟩
        rw [← hsb] at S3 HTN HRS ⊢
        obtain ⟨w1, hw1⟩ : ∃ x, x = w3.drew := ⟨_, rfl⟩
        have HW1 := Lib.hid hw1
        have OW1 := Lib.hid (show Own w1 (w.heap.size + 1) (.slice oa n oc) l by rw [hw1]; exact (O.out.below B3.out).drew)
        have SB1 := Lib.hid (show Blk w1 sb 28 SC by rw [hw1]; exact S3.out.drew)
        have TB1 := Lib.hid (show Blk w1 w.heap.size 34 L by rw [hw1]; exact (TR.out.below B3.out TR.out.lt).drew)
        have WB1 := Lib.hid (show Below w.heap.size w w1 by rw [hw1]; exact (WR.out.on B3.out).on (Below.refl _ _).drew)
        have HBB := Lib.hid (show (w.heap.size + 1) ≤ w1.heap.size by have := TB1.out.lt; omega)
        have HOLD := Lib.hid (fun g (hg : (Value.slice oa n oc).ownBlock = some g) => (OW1.out.from g hg).2)
        have HNS := Lib.hid (show some sb ≠ (Value.slice oa n oc).ownBlock from fun e => by
          have h := (O.out.from sb e.symm).2
          omega)
        have HNT := Lib.hid (show some w.heap.size ≠ (Value.slice oa n oc).ownBlock from fun e => by
          have h := (O.out.from w.heap.size e.symm).1
          omega)
        have HSB := Lib.hid hsb
        clear hw1 hsb c0 S3 B3 HRG
        refine wp_region_w (by kernel_rfl) [2, 3, 7, 8] (by kernel_rfl) (by kernel_rfl) (P9 w1 (w.heap.size + 1) (.slice oa n oc) l 0 (be tn 2)) [.pre (.slice oa n oc), .pre (.int .u8 0), .of 2 (fun u v => v = u), .of 3 (fun u v => v = u), .pre (.pointer (some ⟨sb, 1, none⟩)), .pre (.int .u16 (tn : Int)), .pre (.int .u64 (tn : Int)), .of 7 (fun u v => v = u), .of 8 (fun u v => v = u), .of 8 (fun u v => v = u)] (fun i hi hq => by
                      simp only [List.mem_cons, List.mem_nil_iff, or_false] at hi
                      rcases hi with rfl | rfl | rfl | rfl
                      · exact absurd hq (by decide +kernel)
                      · exact absurd hq (by decide +kernel)
                      · exact absurd hq (by decide +kernel)
                      · exact absurd hq (by decide +kernel)) (P9.zero (show _ = w1 from HW1.out.symm) OW1.out) ?_ ?_
        · refine ⟨?_, ?_, ?_, ?_, ?_, ?_, ?_, ?_, ?_, ?_, trivial⟩
          · intro a w5 r hF hI hns hri h1 h2 hd
            have e3 : a.eval (.tmp 3) = .slice oa n oc := hF 3 (by decide +kernel)
            exact doesZ_read (v := .slice oa n oc) (by decide) rfl (ex_move rfl e3) hI rfl
          · intro a w5 r hF hI hns hri h1 h2 hd
            have e6 : a.eval (.tmp 6) = .int .u8 0 := hF 6 (by decide +kernel)
            exact doesZ_read (v := .int .u8 0) (by decide) rfl (ex_move rfl e6) hI rfl
          · intro a w5 r hF hI hns hri h1 h2 hd
            have e17 : a.eval (.tmp 17) = .int .u8 0 := hd 1 (by decide +kernel)
            refine doesZ_byte (by decide) rfl (.tmp 17) rfl 0 e17 ⟨hI.byte (h1 3 (by decide) (by decide +kernel)) (h1 8 (by decide) (by decide +kernel)) (small_bytes (by decide)), _, Told.set_same _ _ _, rfl⟩
          · intro a w5 r hF hI hns hri h1 h2 hd
            have e16 : a.eval (.tmp 16) = .slice oa n oc := hd 0 (by decide +kernel)
            obtain ⟨u18, hu18, e18⟩ : ∃ u, r 2 = some u ∧ a.eval (.tmp 18) = u := hd 2 (by decide +kernel)
            have h8 := h1 8 (by decide) (by decide +kernel)
            exact doesZ_app8 (by decide) rfl (.tmp 16) (.tmp 18) rfl (w.heap.size + 1) (.slice oa n oc) u18 l [0] e16 e18 (hI.out0 hri) (hI.made u18 hu18 hri).1 (by rw [← HLN.out]; simp; omega) (Nat.le_trans HBB.out hI.grow.size) (fun v' w' o' g' k' => ⟨hI.first h8 HOLD.out o' g' k', _, Told.set_same _ _ _, rfl⟩)
          · intro a w5 r hF hI hns hri h1 h2 hd
            have e5 : a.eval (.tmp 5) = .pointer (some ⟨sb, 0, none⟩) := hF 5 (by decide +kernel)
            exact doesZ_read (v := .pointer (some ⟨sb, 1, none⟩)) (by decide) rfl (ex_fieldAddr rfl e5 (by go_simp)) hI rfl
          · intro a w5 r hF hI hns hri h1 h2 hd
            have e20 : a.eval (.tmp 20) = .pointer (some ⟨sb, 1, none⟩) := hd 4 (by decide +kernel)
            have ct := HTN.out w5 (SB1.out.grown hI.grow HNS.out)
            exact doesZ_read (v := .int .u16 (tn : Int)) (by decide) rfl (by unfold execOp; simp only [e20]; go_simp) hI rfl
          · intro a w5 r hF hI hns hri h1 h2 hd
            have e21 : a.eval (.tmp 21) = .int .u16 (tn : Int) := hd 5 (by decide +kernel)
            exact doesZ_read (v := .int .u64 (tn : Int)) (by decide) rfl (ex_convert rfl e21 (by go_simp)) hI rfl
          · intro a w5 r hF hI hns hri h1 h2 hd
            have e22 : a.eval (.tmp 22) = .int .u64 (tn : Int) := hd 6 (by decide +kernel)
            have h8 := h1 8 (by decide) (by decide +kernel)
            exact doesZ_call (by decide) rfl (ex_call (vs := #[.int .u64 (tn : Int), .int .i64 2]) rfl (by simp only [List.map_toArray, List.map_cons, List.map_nil, e22]; rfl) (by go_simp)) ((HNUM.out w5).mono fun e w6 hh => by obtain ⟨v, he, ho, hb⟩ := hh; exact ⟨v, he, hI.called h8 ho hb, v, Told.set_same _ _ _, rfl⟩)
          · intro a w5 r hF hI hns hri h1 h2 hd
            obtain ⟨u19, hu19, e19⟩ : ∃ u, r 3 = some u ∧ a.eval (.tmp 19) = u := hd 3 (by decide +kernel)
            obtain ⟨u23, hu23, e23⟩ : ∃ u, r 7 = some u ∧ a.eval (.tmp 23) = u := hd 7 (by decide +kernel)
            exact doesZ_app8 (by decide) rfl (.tmp 19) (.tmp 23) rfl (w.heap.size + 1) u19 u23 (l ++ [0]) (be tn 2) e19 e23 (hI.out1 u19 hu19 hri).own (hI.call u23 hu23 hri).1 (by rw [List.length_append, ← HLN.out, be_len]; simp; omega) (Nat.le_trans HBB.out hI.grow.size) (fun v' w' o' g' k' => ⟨hI.second hu19 hri o' g' k', _, Told.set_same _ _ _, rfl⟩)
          · intro a w5 r hF hI hns hri h1 h2 hd
            obtain ⟨u24, hu24, e24⟩ : ∃ u, r 8 = some u ∧ a.eval (.tmp 24) = u := hd 8 (by decide +kernel)
            exact doesZ_read (by decide) rfl (ex_assign rfl e24) hI ⟨u24, hu24, rfl⟩
        · intro vs r w5 hI hS hvs
          obtain ⟨u8, hu8⟩ := hS 8 (by decide)
          have G5 := Lib.hid (hI.out2 u8 hu8)
          obtain ⟨v3, hv3, e3⟩ : ∃ u, r 8 = some u ∧ vs 9 = u := hvs 9 (by decide)
          obtain rfl := Option.some.inj (hu8.symm.trans hv3)
          obtain ⟨oa2, oc2, hsh, _⟩ := G5.out.own.rd.shape
          obtain ⟨n2, hn2⟩ : ∃ n, n = (l ++ [0] ++ be tn 2).length := ⟨_, rfl⟩
          rw [← hn2] at hsh
          subst hsh
          obtain ⟨l2, hl2⟩ : ∃ l2, l2 = l ++ [0] ++ be tn 2 := ⟨_, rfl⟩
          rw [← hl2] at G5 hn2
          have HL2 := Lib.hid hn2
          have HLE2 := Lib.hid hl2
          have HN2B := Lib.hid (show n2 ≤ 4096 by rw [hn2, hl2, List.length_append, List.length_append, ← HLN.out, be_len]; simp; omega)
          have SB5 := Lib.hid (SB1.out.grown G5.out.grow HNS.out)
          have TB5 := Lib.hid (TB1.out.grown G5.out.grow HNT.out)
          have WB5 := Lib.hid (WB1.out.grown G5.out.grow WB1.out.size (fun g hg => by have := (OW1.out.from g hg).1; omega))
          have HF5 := Lib.hid (show ∀ g, (Value.slice oa2 n2 oc2).ownBlock = some g → g ≠ sb ∧ g ≠ w.heap.size from fun g hg => by
            have h1 := (G5.out.own.from g hg).1
            rcases G5.out.from_ g hg with q | q
            · exact ⟨fun e => HNS.out (by rw [← e]; exact q.symm), by omega⟩
            · exact ⟨fun e => by have := SB1.out.lt; omega, by omega⟩)
          clear hI hS hvs hu8 hv3 hn2 hl2
          simp only [putOps, Act.put, List.setIfInBounds_toArray, List.set_cons_zero, List.set_cons_succ, e3]
          clear e3
          generalize vs 0 = y0 at *
          go_upto_region 10 with fail
          obtain ⟨w2, hw2⟩ : ∃ x, x = w5.drew := ⟨_, rfl⟩
          have HW2 := Lib.hid hw2
          have OW2 := Lib.hid (show Own w2 (w.heap.size + 1) (.slice oa2 n2 oc2) l2 by rw [hw2]; exact G5.out.own.drew)
          have SB2 := Lib.hid (show Blk w2 sb 28 SC by rw [hw2]; exact SB5.out.drew)
          have TB2 := Lib.hid (show Blk w2 w.heap.size 34 L by rw [hw2]; exact TB5.out.drew)
          have WB2 := Lib.hid (show Below w.heap.size w w2 by rw [hw2]; exact WB5.out.on (Below.refl _ _).drew)
          have HB2 := Lib.hid (show (w.heap.size + 1) ≤ w2.heap.size by have := TB2.out.lt; omega)
          have HN2 := Lib.hid (show some sb ≠ (Value.slice oa2 n2 oc2).ownBlock from fun e => (HF5.out sb e.symm).1 rfl)
          have HM2 := Lib.hid (show some w.heap.size ≠ (Value.slice oa2 n2 oc2).ownBlock from fun e => (HF5.out w.heap.size e.symm).2 rfl)
          clear hw2
          refine wp_region_w (by kernel_rfl) [3, 6, 9] (by kernel_rfl) (by kernel_rfl) (Stg [3, 6, 9] (A10 w2 (w.heap.size + 1) (.slice oa2 n2 oc2) (l2 ++ salt) (l2 ++ salt ++ sld) (l2 ++ salt ++ sld ++ chk))) [.pre (.slice oa2 n2 oc2), .pre (.pointer (some ⟨sb, 2, none⟩)), .pre (.slice (some ⟨sb, 2, none⟩) 16 16), .of 3 (fun u v => v = u), .pre (.pointer (some ⟨sb, 18, none⟩)), .pre (.slice (some ⟨sb, 18, none⟩) 32 32), .of 6 (fun u v => v = u), .pre (.pointer (some ⟨sb, 50, none⟩)), .pre (.slice (some ⟨sb, 50, none⟩) 32 32), .of 9 (fun u v => v = u), .of 9 (fun u v => v = u)] (fun i hi hq => by
                          simp only [List.mem_cons, List.mem_nil_iff, or_false] at hi
                          rcases hi with rfl | rfl | rfl
                          · exact absurd hq (by decide +kernel)
                          · exact absurd hq (by decide +kernel)
                          · exact absurd hq (by decide +kernel)) (Stg.zero (show _ = w2 from HW2.out.symm)) ?_ ?_
          · refine ⟨?_, ?_, ?_, ?_, ?_, ?_, ?_, ?_, ?_, ?_, ?_, trivial⟩
            · intro a w5 r hF hI hns hri h1 h2 hd
              have e3 : a.eval (.tmp 3) = .slice oa2 n2 oc2 := hF 3 (by decide +kernel)
              exact doesZ_read (v := .slice oa2 n2 oc2) (by decide) rfl (ex_move rfl e3) hI rfl
            · intro a w5 r hF hI hns hri h1 h2 hd
              have e5 : a.eval (.tmp 5) = .pointer (some ⟨sb, 0, none⟩) := hF 5 (by decide +kernel)
              exact doesZ_read (v := .pointer (some ⟨sb, 2, none⟩)) (by decide) rfl (ex_fieldAddr rfl e5 (by go_simp)) hI rfl
            · intro a w5 r hF hI hns hri h1 h2 hd
              have e26 : a.eval (.tmp 26) = .pointer (some ⟨sb, 2, none⟩) := hd 1 (by decide +kernel)
              have f26 : a.tmps[26]?.getD undef = .pointer (some ⟨sb, 2, none⟩) := by rw [← Array.getD_eq_getD_getElem?]; exact e26
              exact doesZ_read (v := .slice (some ⟨sb, 2, none⟩) 16 16) (by decide) rfl (by unfold execOp; simp only [e26]; go_simp) hI rfl
            · intro a w5 r hF hI hns hri h1 h2 hd
              have e25 : a.eval (.tmp 25) = .slice oa2 n2 oc2 := hd 0 (by decide +kernel)
              have e27 : a.eval (.tmp 27) = .slice (some ⟨sb, 2, none⟩) 16 16 := hd 2 (by decide +kernel)
              have hA : A10 w2 (w.heap.size + 1) (.slice oa2 n2 oc2) (l2 ++ salt) (l2 ++ salt ++ sld) (l2 ++ salt ++ sld ++ chk) 0 r w5 := hI.at_ 0 (.inl rfl) (.inr ⟨by decide, hri⟩)
              have hw : w5 = w2 := hA
              subst hw
              exact doesZ_app8 (by decide) rfl (.tmp 25) (.tmp 27) rfl (w.heap.size + 1) _ _ (l2) salt e25 e27 OW2.out ((HRS.out _ SB2.out).1) (by simp only [← HL2.out, HSL.out.1]; have := HN2B.out; omega) (HB2.out) (fun v' w' o' g' k' => ⟨hI.next 0 3 v' rfl (by decide) (.inl rfl) hri (by decide) ⟨v', Told.set_same _ _ _, (Grew.refl OW2.out).next (show Own w' _ v' (l2 ++ salt) from o') g' k'⟩, _, Told.set_same _ _ _, rfl⟩)
            · intro a w5 r hF hI hns hri h1 h2 hd
              have e5 : a.eval (.tmp 5) = .pointer (some ⟨sb, 0, none⟩) := hF 5 (by decide +kernel)
              exact doesZ_read (v := .pointer (some ⟨sb, 18, none⟩)) (by decide) rfl (ex_fieldAddr rfl e5 (by go_simp)) hI rfl
            · intro a w5 r hF hI hns hri h1 h2 hd
              have e29 : a.eval (.tmp 29) = .pointer (some ⟨sb, 18, none⟩) := hd 4 (by decide +kernel)
              have f29 : a.tmps[29]?.getD undef = .pointer (some ⟨sb, 18, none⟩) := by rw [← Array.getD_eq_getD_getElem?]; exact e29
              exact doesZ_read (v := .slice (some ⟨sb, 18, none⟩) 32 32) (by decide) rfl (by unfold execOp; simp only [e29]; go_simp) hI rfl
            · intro a w5 r hF hI hns hri h1 h2 hd
              obtain ⟨u28, hu28, e28⟩ : ∃ u, r 3 = some u ∧ a.eval (.tmp 28) = u := hd 3 (by decide +kernel)
              have e30 : a.eval (.tmp 30) = .slice (some ⟨sb, 18, none⟩) 32 32 := hd 5 (by decide +kernel)
              have hA : A10 w2 (w.heap.size + 1) (.slice oa2 n2 oc2) (l2 ++ salt) (l2 ++ salt ++ sld) (l2 ++ salt ++ sld ++ chk) 1 r w5 := hI.at_ 1 (.inr ⟨by decide, h2 3 (by decide) (by decide +kernel)⟩) (.inr ⟨by decide, hri⟩)
              obtain ⟨v0, hv0, hp⟩ := hA
              obtain rfl := Option.some.inj (hv0.symm.trans hu28)
              exact doesZ_app8 (by decide) rfl (.tmp 28) (.tmp 30) rfl (w.heap.size + 1) _ _ (l2 ++ salt) sld e28 e30 hp.own ((HRS.out _ (SB2.out.grown hp.grow HN2.out)).2.1) (by simp only [List.length_append, ← HL2.out, HSL.out.1, HSD.out.1]; have := HN2B.out; omega) (Nat.le_trans HB2.out hp.grow.size) (fun v' w' o' g' k' => ⟨hI.next 1 6 v' rfl (by decide) (.inr ⟨by decide, h2 3 (by decide) (by decide +kernel)⟩) hri (by decide) ⟨v', Told.set_same _ _ _, hp.next o' g' k'⟩, _, Told.set_same _ _ _, rfl⟩)
            · intro a w5 r hF hI hns hri h1 h2 hd
              have e5 : a.eval (.tmp 5) = .pointer (some ⟨sb, 0, none⟩) := hF 5 (by decide +kernel)
              exact doesZ_read (v := .pointer (some ⟨sb, 50, none⟩)) (by decide) rfl (ex_fieldAddr rfl e5 (by go_simp)) hI rfl
            · intro a w5 r hF hI hns hri h1 h2 hd
              have e32 : a.eval (.tmp 32) = .pointer (some ⟨sb, 50, none⟩) := hd 7 (by decide +kernel)
              have f32 : a.tmps[32]?.getD undef = .pointer (some ⟨sb, 50, none⟩) := by rw [← Array.getD_eq_getD_getElem?]; exact e32
              exact doesZ_read (v := .slice (some ⟨sb, 50, none⟩) 32 32) (by decide) rfl (by unfold execOp; simp only [e32]; go_simp) hI rfl
            · intro a w5 r hF hI hns hri h1 h2 hd
              obtain ⟨u31, hu31, e31⟩ : ∃ u, r 6 = some u ∧ a.eval (.tmp 31) = u := hd 6 (by decide +kernel)
              have e33 : a.eval (.tmp 33) = .slice (some ⟨sb, 50, none⟩) 32 32 := hd 8 (by decide +kernel)
              have hA : A10 w2 (w.heap.size + 1) (.slice oa2 n2 oc2) (l2 ++ salt) (l2 ++ salt ++ sld) (l2 ++ salt ++ sld ++ chk) 2 r w5 := hI.at_ 2 (.inr ⟨by decide, h2 6 (by decide) (by decide +kernel)⟩) (.inr ⟨by decide, hri⟩)
              obtain ⟨v0, hv0, hp⟩ := hA
              obtain rfl := Option.some.inj (hv0.symm.trans hu31)
              exact doesZ_app8 (by decide) rfl (.tmp 31) (.tmp 33) rfl (w.heap.size + 1) _ _ (l2 ++ salt ++ sld) chk e31 e33 hp.own ((HRS.out _ (SB2.out.grown hp.grow HN2.out)).2.2) (by simp only [List.length_append, ← HL2.out, HSL.out.1, HSD.out.1, HSC.out.1]; have := HN2B.out; omega) (Nat.le_trans HB2.out hp.grow.size) (fun v' w' o' g' k' => ⟨hI.next 2 9 v' rfl (by decide) (.inr ⟨by decide, h2 6 (by decide) (by decide +kernel)⟩) hri (by decide) ⟨v', Told.set_same _ _ _, hp.next o' g' k'⟩, _, Told.set_same _ _ _, rfl⟩)
            · intro a w5 r hF hI hns hri h1 h2 hd
              obtain ⟨u34, hu34, e34⟩ : ∃ u, r 9 = some u ∧ a.eval (.tmp 34) = u := hd 9 (by decide +kernel)
              exact doesZ_read (by decide) rfl (ex_assign rfl e34) hI ⟨u34, hu34, rfl⟩
          · intro vs2 r2 w7 hI hS hv2
            obtain ⟨v9, hv9, hp⟩ := hI.at_ 3 (.inr ⟨by decide, hS 9 (by decide)⟩) (.inl rfl)
            obtain ⟨u, hu, e3⟩ : ∃ u, r2 9 = some u ∧ vs2 10 = u := hv2 10 (by decide)
            obtain rfl := Option.some.inj (hv9.symm.trans hu)
            have G7 := Lib.hid hp
            have TB7 := Lib.hid (TB2.out.grown hp.grow HM2.out)
            have WB7 := Lib.hid (WB2.out.grown hp.grow WB2.out.size (fun g hg => by have := (OW2.out.from g hg).1; omega))
            clear hI hS hv2 hv9 hu hp
            obtain ⟨oa3, oc3, hsh3, _⟩ := G7.out.own.rd.shape
            obtain ⟨n3, hn3⟩ : ∃ n, n = (l2 ++ salt ++ sld ++ chk).length := ⟨_, rfl⟩
            rw [← hn3] at hsh3
            subst hsh3
            have HN3 := Lib.hid hn3
            have HB7 := Lib.hid (show (w.heap.size + 1) ≤ w7.heap.size by have := TB7.out.lt; omega)
            clear hn3
            simp only [putOps, Act.put, List.setIfInBounds_toArray, List.set_cons_zero, List.set_cons_succ, e3]
            clear e3
            generalize vs2 0 = z0 at *
            go_wp2_with (refine wpList_app0 rfl (.tmp 35) (.const (.int .i64 45)) rfl (w.heap.size + 1) (.slice oa3 n3 oc3) (l2 ++ salt ++ sld ++ chk) 45 rfl rfl G7.out.own (by rw [← HN3.out]; rw [HN3.out]; simp only [List.length_append, ← HL2.out, HSL.out.1, HSD.out.1, HSC.out.1]; have := HN2B.out; omega) HB7.out ?_; intro v8 w8 o8 g8 k8; have O8 := Lib.hid o8; have TB8 := Lib.hid (TB7.out.grown g8 (fun e => by have := (G7.out.own.from _ e.symm).1; omega)); have WB8 := Lib.hid (WB7.out.grown g8 WB7.out.size (fun g hg => by have := (G7.out.own.from g hg).1; omega)); clear o8 g8 k8)
            refine ⟨⟨k + 1, by omega, by go_num, ?_, TB8.out, WB8.out⟩, by simp [intOf]; omega⟩
            have h := O8.out
            rw [HLE2.out] at h
            rw [HSTEP.out, ← HLL.out]
            simpa [lay, HBIT.out, List.append_assoc] using h
      | true =>
        have HBIT := Lib.hid (show bt = 1 from HBV.out)
        go_upto_region 9 with (first
          | (refine wpList_load_mid rfl 28 (.tmp 12) rfl w.heap.size (k * 82) rfl SC _ HRG.out Tryd.underlying28 rfl (by rw [S82.out]; exact infoSl) ?_)
          | (refine wpList_store_blk rfl 28 (.tmp 5) (.tmp 13) rfl wr.heap.size 0 SC rfl rfl 28 D1 (Blk.new wr 28 D1 _ rfl) (by rw [S82.out, hd1]; exact Nat.le_refl _) (by rw [S82.out]; exact infoSl) SONE.out ?_; intro w3 b3 g3; rw [splice_all _ _ (by rw [S82.out, hd1])] at b3; have S3 := Lib.hid b3; have B3 := Lib.hid (alloc_turn (Below.refl _ _) g3); have c0 := HC0.out _ _ b3; clear b3 g3))
        obtain ⟨sb, hsb⟩ : ∃ b, b = wr.heap.size := ⟨_, rfl⟩
        rw [← hsb] at S3 HTN HRS ⊢
        obtain ⟨w1, hw1⟩ : ∃ x, x = w3.drew := ⟨_, rfl⟩
        have HW1 := Lib.hid hw1
        have OW1 := Lib.hid (show Own w1 (w.heap.size + 1) (.slice oa n oc) l by rw [hw1]; exact (O.out.below B3.out).drew)
        have SB1 := Lib.hid (show Blk w1 sb 28 SC by rw [hw1]; exact S3.out.drew)
        have TB1 := Lib.hid (show Blk w1 w.heap.size 34 L by rw [hw1]; exact (TR.out.below B3.out TR.out.lt).drew)
        have WB1 := Lib.hid (show Below w.heap.size w w1 by rw [hw1]; exact (WR.out.on B3.out).on (Below.refl _ _).drew)
        have HBB := Lib.hid (show (w.heap.size + 1) ≤ w1.heap.size by have := TB1.out.lt; omega)
        have HOLD := Lib.hid (fun g (hg : (Value.slice oa n oc).ownBlock = some g) => (OW1.out.from g hg).2)
        have HNS := Lib.hid (show some sb ≠ (Value.slice oa n oc).ownBlock from fun e => by
          have h := (O.out.from sb e.symm).2
          omega)
        have HNT := Lib.hid (show some w.heap.size ≠ (Value.slice oa n oc).ownBlock from fun e => by
          have h := (O.out.from w.heap.size e.symm).1
          omega)
        have HSB := Lib.hid hsb
        clear hw1 hsb c0 S3 B3 HRG
        refine wp_region_w (by kernel_rfl) [2, 3, 7, 8] (by kernel_rfl) (by kernel_rfl) (P9 w1 (w.heap.size + 1) (.slice oa n oc) l 1 (be tn 2)) [.pre (.slice oa n oc), .pre (.int .u8 1), .of 2 (fun u v => v = u), .of 3 (fun u v => v = u), .pre (.pointer (some ⟨sb, 1, none⟩)), .pre (.int .u16 (tn : Int)), .pre (.int .u64 (tn : Int)), .of 7 (fun u v => v = u), .of 8 (fun u v => v = u), .of 8 (fun u v => v = u)] (fun i hi hq => by
                      simp only [List.mem_cons, List.mem_nil_iff, or_false] at hi
                      rcases hi with rfl | rfl | rfl | rfl
                      · exact absurd hq (by decide +kernel)
                      · exact absurd hq (by decide +kernel)
                      · exact absurd hq (by decide +kernel)
                      · exact absurd hq (by decide +kernel)) (P9.zero (show _ = w1 from HW1.out.symm) OW1.out) ?_ ?_
        · refine ⟨?_, ?_, ?_, ?_, ?_, ?_, ?_, ?_, ?_, ?_, trivial⟩
          · intro a w5 r hF hI hns hri h1 h2 hd
            have e3 : a.eval (.tmp 3) = .slice oa n oc := hF 3 (by decide +kernel)
            exact doesZ_read (v := .slice oa n oc) (by decide) rfl (ex_move rfl e3) hI rfl
          · intro a w5 r hF hI hns hri h1 h2 hd
            have e6 : a.eval (.tmp 6) = .int .u8 1 := hF 6 (by decide +kernel)
            exact doesZ_read (v := .int .u8 1) (by decide) rfl (ex_move rfl e6) hI rfl
          · intro a w5 r hF hI hns hri h1 h2 hd
            have e17 : a.eval (.tmp 17) = .int .u8 1 := hd 1 (by decide +kernel)
            refine doesZ_byte (by decide) rfl (.tmp 17) rfl 1 e17 ⟨hI.byte (h1 3 (by decide) (by decide +kernel)) (h1 8 (by decide) (by decide +kernel)) (small_bytes (by decide)), _, Told.set_same _ _ _, rfl⟩
          · intro a w5 r hF hI hns hri h1 h2 hd
            have e16 : a.eval (.tmp 16) = .slice oa n oc := hd 0 (by decide +kernel)
            obtain ⟨u18, hu18, e18⟩ : ∃ u, r 2 = some u ∧ a.eval (.tmp 18) = u := hd 2 (by decide +kernel)
            have h8 := h1 8 (by decide) (by decide +kernel)
            exact doesZ_app8 (by decide) rfl (.tmp 16) (.tmp 18) rfl (w.heap.size + 1) (.slice oa n oc) u18 l [1] e16 e18 (hI.out0 hri) (hI.made u18 hu18 hri).1 (by rw [← HLN.out]; simp; omega) (Nat.le_trans HBB.out hI.grow.size) (fun v' w' o' g' k' => ⟨hI.first h8 HOLD.out o' g' k', _, Told.set_same _ _ _, rfl⟩)
          · intro a w5 r hF hI hns hri h1 h2 hd
            have e5 : a.eval (.tmp 5) = .pointer (some ⟨sb, 0, none⟩) := hF 5 (by decide +kernel)
            exact doesZ_read (v := .pointer (some ⟨sb, 1, none⟩)) (by decide) rfl (ex_fieldAddr rfl e5 (by go_simp)) hI rfl
          · intro a w5 r hF hI hns hri h1 h2 hd
            have e20 : a.eval (.tmp 20) = .pointer (some ⟨sb, 1, none⟩) := hd 4 (by decide +kernel)
            have ct := HTN.out w5 (SB1.out.grown hI.grow HNS.out)
            exact doesZ_read (v := .int .u16 (tn : Int)) (by decide) rfl (by unfold execOp; simp only [e20]; go_simp) hI rfl
          · intro a w5 r hF hI hns hri h1 h2 hd
            have e21 : a.eval (.tmp 21) = .int .u16 (tn : Int) := hd 5 (by decide +kernel)
            exact doesZ_read (v := .int .u64 (tn : Int)) (by decide) rfl (ex_convert rfl e21 (by go_simp)) hI rfl
          · intro a w5 r hF hI hns hri h1 h2 hd
            have e22 : a.eval (.tmp 22) = .int .u64 (tn : Int) := hd 6 (by decide +kernel)
            have h8 := h1 8 (by decide) (by decide +kernel)
            exact doesZ_call (by decide) rfl (ex_call (vs := #[.int .u64 (tn : Int), .int .i64 2]) rfl (by simp only [List.map_toArray, List.map_cons, List.map_nil, e22]; rfl) (by go_simp)) ((HNUM.out w5).mono fun e w6 hh => by obtain ⟨v, he, ho, hb⟩ := hh; exact ⟨v, he, hI.called h8 ho hb, v, Told.set_same _ _ _, rfl⟩)
          · intro a w5 r hF hI hns hri h1 h2 hd
            obtain ⟨u19, hu19, e19⟩ : ∃ u, r 3 = some u ∧ a.eval (.tmp 19) = u := hd 3 (by decide +kernel)
            obtain ⟨u23, hu23, e23⟩ : ∃ u, r 7 = some u ∧ a.eval (.tmp 23) = u := hd 7 (by decide +kernel)
            exact doesZ_app8 (by decide) rfl (.tmp 19) (.tmp 23) rfl (w.heap.size + 1) u19 u23 (l ++ [1]) (be tn 2) e19 e23 (hI.out1 u19 hu19 hri).own (hI.call u23 hu23 hri).1 (by rw [List.length_append, ← HLN.out, be_len]; simp; omega) (Nat.le_trans HBB.out hI.grow.size) (fun v' w' o' g' k' => ⟨hI.second hu19 hri o' g' k', _, Told.set_same _ _ _, rfl⟩)
          · intro a w5 r hF hI hns hri h1 h2 hd
            obtain ⟨u24, hu24, e24⟩ : ∃ u, r 8 = some u ∧ a.eval (.tmp 24) = u := hd 8 (by decide +kernel)
            exact doesZ_read (by decide) rfl (ex_assign rfl e24) hI ⟨u24, hu24, rfl⟩
        · intro vs r w5 hI hS hvs
          obtain ⟨u8, hu8⟩ := hS 8 (by decide)
          have G5 := Lib.hid (hI.out2 u8 hu8)
          obtain ⟨v3, hv3, e3⟩ : ∃ u, r 8 = some u ∧ vs 9 = u := hvs 9 (by decide)
          obtain rfl := Option.some.inj (hu8.symm.trans hv3)
          obtain ⟨oa2, oc2, hsh, _⟩ := G5.out.own.rd.shape
          obtain ⟨n2, hn2⟩ : ∃ n, n = (l ++ [1] ++ be tn 2).length := ⟨_, rfl⟩
          rw [← hn2] at hsh
          subst hsh
          obtain ⟨l2, hl2⟩ : ∃ l2, l2 = l ++ [1] ++ be tn 2 := ⟨_, rfl⟩
          rw [← hl2] at G5 hn2
          have HL2 := Lib.hid hn2
          have HLE2 := Lib.hid hl2
          have HN2B := Lib.hid (show n2 ≤ 4096 by rw [hn2, hl2, List.length_append, List.length_append, ← HLN.out, be_len]; simp; omega)
          have SB5 := Lib.hid (SB1.out.grown G5.out.grow HNS.out)
          have TB5 := Lib.hid (TB1.out.grown G5.out.grow HNT.out)
          have WB5 := Lib.hid (WB1.out.grown G5.out.grow WB1.out.size (fun g hg => by have := (OW1.out.from g hg).1; omega))
          have HF5 := Lib.hid (show ∀ g, (Value.slice oa2 n2 oc2).ownBlock = some g → g ≠ sb ∧ g ≠ w.heap.size from fun g hg => by
            have h1 := (G5.out.own.from g hg).1
            rcases G5.out.from_ g hg with q | q
            · exact ⟨fun e => HNS.out (by rw [← e]; exact q.symm), by omega⟩
            · exact ⟨fun e => by have := SB1.out.lt; omega, by omega⟩)
          clear hI hS hvs hu8 hv3 hn2 hl2
          simp only [putOps, Act.put, List.setIfInBounds_toArray, List.set_cons_zero, List.set_cons_succ, e3]
          clear e3
          generalize vs 0 = y0 at *
          go_upto_region 10 with fail
          obtain ⟨w2, hw2⟩ : ∃ x, x = w5.drew := ⟨_, rfl⟩
          have HW2 := Lib.hid hw2
          have OW2 := Lib.hid (show Own w2 (w.heap.size + 1) (.slice oa2 n2 oc2) l2 by rw [hw2]; exact G5.out.own.drew)
          have SB2 := Lib.hid (show Blk w2 sb 28 SC by rw [hw2]; exact SB5.out.drew)
          have TB2 := Lib.hid (show Blk w2 w.heap.size 34 L by rw [hw2]; exact TB5.out.drew)
          have WB2 := Lib.hid (show Below w.heap.size w w2 by rw [hw2]; exact WB5.out.on (Below.refl _ _).drew)
          have HB2 := Lib.hid (show (w.heap.size + 1) ≤ w2.heap.size by have := TB2.out.lt; omega)
          have HN2 := Lib.hid (show some sb ≠ (Value.slice oa2 n2 oc2).ownBlock from fun e => (HF5.out sb e.symm).1 rfl)
          have HM2 := Lib.hid (show some w.heap.size ≠ (Value.slice oa2 n2 oc2).ownBlock from fun e => (HF5.out w.heap.size e.symm).2 rfl)
          clear hw2
          refine wp_region_w (by kernel_rfl) [3, 6, 9] (by kernel_rfl) (by kernel_rfl) (Stg [3, 6, 9] (A10 w2 (w.heap.size + 1) (.slice oa2 n2 oc2) (l2 ++ salt) (l2 ++ salt ++ sld) (l2 ++ salt ++ sld ++ chk))) [.pre (.slice oa2 n2 oc2), .pre (.pointer (some ⟨sb, 2, none⟩)), .pre (.slice (some ⟨sb, 2, none⟩) 16 16), .of 3 (fun u v => v = u), .pre (.pointer (some ⟨sb, 18, none⟩)), .pre (.slice (some ⟨sb, 18, none⟩) 32 32), .of 6 (fun u v => v = u), .pre (.pointer (some ⟨sb, 50, none⟩)), .pre (.slice (some ⟨sb, 50, none⟩) 32 32), .of 9 (fun u v => v = u), .of 9 (fun u v => v = u)] (fun i hi hq => by
                          simp only [List.mem_cons, List.mem_nil_iff, or_false] at hi
                          rcases hi with rfl | rfl | rfl
                          · exact absurd hq (by decide +kernel)
                          · exact absurd hq (by decide +kernel)
                          · exact absurd hq (by decide +kernel)) (Stg.zero (show _ = w2 from HW2.out.symm)) ?_ ?_
          · refine ⟨?_, ?_, ?_, ?_, ?_, ?_, ?_, ?_, ?_, ?_, ?_, trivial⟩
            · intro a w5 r hF hI hns hri h1 h2 hd
              have e3 : a.eval (.tmp 3) = .slice oa2 n2 oc2 := hF 3 (by decide +kernel)
              exact doesZ_read (v := .slice oa2 n2 oc2) (by decide) rfl (ex_move rfl e3) hI rfl
            · intro a w5 r hF hI hns hri h1 h2 hd
              have e5 : a.eval (.tmp 5) = .pointer (some ⟨sb, 0, none⟩) := hF 5 (by decide +kernel)
              exact doesZ_read (v := .pointer (some ⟨sb, 2, none⟩)) (by decide) rfl (ex_fieldAddr rfl e5 (by go_simp)) hI rfl
            · intro a w5 r hF hI hns hri h1 h2 hd
              have e26 : a.eval (.tmp 26) = .pointer (some ⟨sb, 2, none⟩) := hd 1 (by decide +kernel)
              have f26 : a.tmps[26]?.getD undef = .pointer (some ⟨sb, 2, none⟩) := by rw [← Array.getD_eq_getD_getElem?]; exact e26
              exact doesZ_read (v := .slice (some ⟨sb, 2, none⟩) 16 16) (by decide) rfl (by unfold execOp; simp only [e26]; go_simp) hI rfl
            · intro a w5 r hF hI hns hri h1 h2 hd
              have e25 : a.eval (.tmp 25) = .slice oa2 n2 oc2 := hd 0 (by decide +kernel)
              have e27 : a.eval (.tmp 27) = .slice (some ⟨sb, 2, none⟩) 16 16 := hd 2 (by decide +kernel)
              have hA : A10 w2 (w.heap.size + 1) (.slice oa2 n2 oc2) (l2 ++ salt) (l2 ++ salt ++ sld) (l2 ++ salt ++ sld ++ chk) 0 r w5 := hI.at_ 0 (.inl rfl) (.inr ⟨by decide, hri⟩)
              have hw : w5 = w2 := hA
              subst hw
              exact doesZ_app8 (by decide) rfl (.tmp 25) (.tmp 27) rfl (w.heap.size + 1) _ _ (l2) salt e25 e27 OW2.out ((HRS.out _ SB2.out).1) (by simp only [← HL2.out, HSL.out.1]; have := HN2B.out; omega) (HB2.out) (fun v' w' o' g' k' => ⟨hI.next 0 3 v' rfl (by decide) (.inl rfl) hri (by decide) ⟨v', Told.set_same _ _ _, (Grew.refl OW2.out).next (show Own w' _ v' (l2 ++ salt) from o') g' k'⟩, _, Told.set_same _ _ _, rfl⟩)
            · intro a w5 r hF hI hns hri h1 h2 hd
              have e5 : a.eval (.tmp 5) = .pointer (some ⟨sb, 0, none⟩) := hF 5 (by decide +kernel)
              exact doesZ_read (v := .pointer (some ⟨sb, 18, none⟩)) (by decide) rfl (ex_fieldAddr rfl e5 (by go_simp)) hI rfl
            · intro a w5 r hF hI hns hri h1 h2 hd
              have e29 : a.eval (.tmp 29) = .pointer (some ⟨sb, 18, none⟩) := hd 4 (by decide +kernel)
              have f29 : a.tmps[29]?.getD undef = .pointer (some ⟨sb, 18, none⟩) := by rw [← Array.getD_eq_getD_getElem?]; exact e29
              exact doesZ_read (v := .slice (some ⟨sb, 18, none⟩) 32 32) (by decide) rfl (by unfold execOp; simp only [e29]; go_simp) hI rfl
            · intro a w5 r hF hI hns hri h1 h2 hd
              obtain ⟨u28, hu28, e28⟩ : ∃ u, r 3 = some u ∧ a.eval (.tmp 28) = u := hd 3 (by decide +kernel)
              have e30 : a.eval (.tmp 30) = .slice (some ⟨sb, 18, none⟩) 32 32 := hd 5 (by decide +kernel)
              have hA : A10 w2 (w.heap.size + 1) (.slice oa2 n2 oc2) (l2 ++ salt) (l2 ++ salt ++ sld) (l2 ++ salt ++ sld ++ chk) 1 r w5 := hI.at_ 1 (.inr ⟨by decide, h2 3 (by decide) (by decide +kernel)⟩) (.inr ⟨by decide, hri⟩)
              obtain ⟨v0, hv0, hp⟩ := hA
              obtain rfl := Option.some.inj (hv0.symm.trans hu28)
              exact doesZ_app8 (by decide) rfl (.tmp 28) (.tmp 30) rfl (w.heap.size + 1) _ _ (l2 ++ salt) sld e28 e30 hp.own ((HRS.out _ (SB2.out.grown hp.grow HN2.out)).2.1) (by simp only [List.length_append, ← HL2.out, HSL.out.1, HSD.out.1]; have := HN2B.out; omega) (Nat.le_trans HB2.out hp.grow.size) (fun v' w' o' g' k' => ⟨hI.next 1 6 v' rfl (by decide) (.inr ⟨by decide, h2 3 (by decide) (by decide +kernel)⟩) hri (by decide) ⟨v', Told.set_same _ _ _, hp.next o' g' k'⟩, _, Told.set_same _ _ _, rfl⟩)
            · intro a w5 r hF hI hns hri h1 h2 hd
              have e5 : a.eval (.tmp 5) = .pointer (some ⟨sb, 0, none⟩) := hF 5 (by decide +kernel)
              exact doesZ_read (v := .pointer (some ⟨sb, 50, none⟩)) (by decide) rfl (ex_fieldAddr rfl e5 (by go_simp)) hI rfl
            · intro a w5 r hF hI hns hri h1 h2 hd
              have e32 : a.eval (.tmp 32) = .pointer (some ⟨sb, 50, none⟩) := hd 7 (by decide +kernel)
              have f32 : a.tmps[32]?.getD undef = .pointer (some ⟨sb, 50, none⟩) := by rw [← Array.getD_eq_getD_getElem?]; exact e32
              exact doesZ_read (v := .slice (some ⟨sb, 50, none⟩) 32 32) (by decide) rfl (by unfold execOp; simp only [e32]; go_simp) hI rfl
            · intro a w5 r hF hI hns hri h1 h2 hd
              obtain ⟨u31, hu31, e31⟩ : ∃ u, r 6 = some u ∧ a.eval (.tmp 31) = u := hd 6 (by decide +kernel)
              have e33 : a.eval (.tmp 33) = .slice (some ⟨sb, 50, none⟩) 32 32 := hd 8 (by decide +kernel)
              have hA : A10 w2 (w.heap.size + 1) (.slice oa2 n2 oc2) (l2 ++ salt) (l2 ++ salt ++ sld) (l2 ++ salt ++ sld ++ chk) 2 r w5 := hI.at_ 2 (.inr ⟨by decide, h2 6 (by decide) (by decide +kernel)⟩) (.inr ⟨by decide, hri⟩)
              obtain ⟨v0, hv0, hp⟩ := hA
              obtain rfl := Option.some.inj (hv0.symm.trans hu31)
              exact doesZ_app8 (by decide) rfl (.tmp 31) (.tmp 33) rfl (w.heap.size + 1) _ _ (l2 ++ salt ++ sld) chk e31 e33 hp.own ((HRS.out _ (SB2.out.grown hp.grow HN2.out)).2.2) (by simp only [List.length_append, ← HL2.out, HSL.out.1, HSD.out.1, HSC.out.1]; have := HN2B.out; omega) (Nat.le_trans HB2.out hp.grow.size) (fun v' w' o' g' k' => ⟨hI.next 2 9 v' rfl (by decide) (.inr ⟨by decide, h2 6 (by decide) (by decide +kernel)⟩) hri (by decide) ⟨v', Told.set_same _ _ _, hp.next o' g' k'⟩, _, Told.set_same _ _ _, rfl⟩)
            · intro a w5 r hF hI hns hri h1 h2 hd
              obtain ⟨u34, hu34, e34⟩ : ∃ u, r 9 = some u ∧ a.eval (.tmp 34) = u := hd 9 (by decide +kernel)
              exact doesZ_read (by decide) rfl (ex_assign rfl e34) hI ⟨u34, hu34, rfl⟩
          · intro vs2 r2 w7 hI hS hv2
            obtain ⟨v9, hv9, hp⟩ := hI.at_ 3 (.inr ⟨by decide, hS 9 (by decide)⟩) (.inl rfl)
            obtain ⟨u, hu, e3⟩ : ∃ u, r2 9 = some u ∧ vs2 10 = u := hv2 10 (by decide)
            obtain rfl := Option.some.inj (hv9.symm.trans hu)
            have G7 := Lib.hid hp
            have TB7 := Lib.hid (TB2.out.grown hp.grow HM2.out)
            have WB7 := Lib.hid (WB2.out.grown hp.grow WB2.out.size (fun g hg => by have := (OW2.out.from g hg).1; omega))
            clear hI hS hv2 hv9 hu hp
            obtain ⟨oa3, oc3, hsh3, _⟩ := G7.out.own.rd.shape
            obtain ⟨n3, hn3⟩ : ∃ n, n = (l2 ++ salt ++ sld ++ chk).length := ⟨_, rfl⟩
            rw [← hn3] at hsh3
            subst hsh3
            have HN3 := Lib.hid hn3
            have HB7 := Lib.hid (show (w.heap.size + 1) ≤ w7.heap.size by have := TB7.out.lt; omega)
            clear hn3
            simp only [putOps, Act.put, List.setIfInBounds_toArray, List.set_cons_zero, List.set_cons_succ, e3]
            clear e3
            generalize vs2 0 = z0 at *
            go_wp2_with (refine wpList_app0 rfl (.tmp 35) (.const (.int .i64 45)) rfl (w.heap.size + 1) (.slice oa3 n3 oc3) (l2 ++ salt ++ sld ++ chk) 45 rfl rfl G7.out.own (by rw [← HN3.out]; rw [HN3.out]; simp only [List.length_append, ← HL2.out, HSL.out.1, HSD.out.1, HSC.out.1]; have := HN2B.out; omega) HB7.out ?_; intro v8 w8 o8 g8 k8; have O8 := Lib.hid o8; have TB8 := Lib.hid (TB7.out.grown g8 (fun e => by have := (G7.out.own.from _ e.symm).1; omega)); have WB8 := Lib.hid (WB7.out.grown g8 WB7.out.size (fun g hg => by have := (G7.out.own.from g hg).1; omega)); clear o8 g8 k8)
            refine ⟨⟨k + 1, by omega, by go_num, ?_, TB8.out, WB8.out⟩, by simp [intOf]; omega⟩
            have h := O8.out
            rw [HLE2.out] at h
            rw [HSTEP.out, ← HLL.out]
            simpa [lay, HBIT.out, List.append_assoc] using h
    · obtain rfl : k = 8 := by omega
      have HALL := Lib.hid (show l = put T by rw [HLL.out, List.take_of_length_le (by rw [HT.out.len]; exact Nat.le_refl _)])
      go_wp2_with fail
      go_ret
      exact ⟨_, rfl, by rw [← HALL.out]; exact O.out.lower (Nat.le_succ _), WR.out⟩
end Go.Proofs.YtbepchikngoknaaDoor
/- Bytes read into a key slot one by one, on numbers. Own work. -/
namespace Go.Proofs.YtbepchikngoknaaDoor
open Go.ChangeShapes Go.WideShapes Go.ChangeAt Go.RowKit
open SL
namespace SL
/-- Of n bytes the first k, noughts behind. -/
def upTo (n : Nat) (K : List Nat) (k : Nat) : List Nat := (List.range n).map fun j => if j < k then gb K j else 0
theorem upTo_len (n : Nat) (K : List Nat) (k : Nat) : (upTo n K k).length = n := by simp [upTo]
theorem upTo_get (n : Nat) (K : List Nat) (k j : Nat) (hj : j < n) : gb (upTo n K k) j = if j < k then gb K j else 0 := by
  unfold upTo; rw [gb_map, if_pos hj]
theorem upTo_zero (n : Nat) (K : List Nat) : upTo n K 0 = List.replicate n 0 := bytes_ext (n := n) (upTo_len _ _ _) (by simp) fun j hj => by
  rw [upTo_get _ _ _ _ hj, if_neg (by omega)]; unfold gb; rw [List.getD_eq_getElem?_getD, List.getElem?_replicate, if_pos hj]; rfl
theorem upTo_all {n : Nat} {K : List Nat} (h : n ≤ K.length) : upTo n K n = K.take n := bytes_ext (n := n) (upTo_len _ _ _) (by rw [List.length_take]; omega) fun j hj => by
  rw [upTo_get _ _ _ _ hj, if_pos hj, gb_take _ _ _ hj]
theorem upTo_step (n : Nat) (K : List Nat) (k : Nat) (hk : k < n) : (upTo n K k).set k (gb K k) = upTo n K (k + 1) := bytes_ext (n := n) (by rw [List.length_set, upTo_len]) (upTo_len _ _ _) fun j hj => by
  rw [gb_set _ _ _ _ (by rw [upTo_len]; exact hk), upTo_get _ _ _ _ hj, upTo_get _ _ _ _ hj]
  by_cases e : k = j
  · subst e; rw [if_pos rfl, if_pos (by omega)]
  · rw [if_neg e]
    by_cases h : j < k
    · rw [if_pos h, if_pos (by omega)]
    · rw [if_neg h, if_neg (by omega)]
theorem upTo_bytes (n : Nat) {K : List Nat} (hK : ∀ k, gb K k < 256) (k : Nat) : Bytes n (upTo n K k) := ⟨upTo_len _ _ _, fun j => by
  unfold upTo; rw [gb_map]; split
  · split
    · exact hK j
    · decide
  · decide⟩
/-- A slot of which so many bytes are read. -/
def mids (c : List Nat) (a b d : Nat) : Slot := ⟨gb c 0 == 1, gb c 1 * 256 + gb c 2, upTo 16 (c.drop 3) a, upTo 32 (c.drop 19) b, upTo 32 (c.drop 51) d⟩
theorem mids_ok {c : List Nat} (hc : ∀ k, gb c k < 256) (a b d : Nat) : Sok (mids c a b d) := by
  have hd : ∀ o k, gb (c.drop o) k < 256 := fun o k => by rw [gb_drop]; exact hc _
  exact ⟨by show gb c 1 * 256 + gb c 2 < 65536; have := hc 1; have := hc 2; omega, upTo_bytes 16 (hd 3) a, upTo_bytes 32 (hd 19) b, upTo_bytes 32 (hd 51) d⟩
theorem mids_all {c : List Nat} (hc : c.length = 128) : mids c 16 32 32 = read c := by
  unfold mids read
  rw [upTo_all (by rw [List.length_drop, hc]; decide), upTo_all (by rw [List.length_drop, hc]; decide), upTo_all (by rw [List.length_drop, hc]; decide)]
end SL
theorem set_salt {s : Slot} (h : Sok s) (k x : Nat) (hk : k < 16) : (slc s).set (2 + k) (.int .u8 (x : Int)) = slc { s with salt := s.salt.set k x } := by
  have e : (row8 s.salt).length = 16 := by rw [row8_len]; exact h.salt.1
  unfold slc
  rw [Nat.add_comm 2 k, List.set_cons_succ, List.set_cons_succ, List.set_append_left _ _ (by omega), row8_set]
theorem set_sld {s : Slot} (h : Sok s) (k x : Nat) (hk : k < 32) : (slc s).set (18 + k) (.int .u8 (x : Int)) = slc { s with sld := s.sld.set k x } := by
  have e : (row8 s.salt).length = 16 := by rw [row8_len]; exact h.salt.1
  have e2 : (row8 s.sld).length = 32 := by rw [row8_len]; exact h.sld.1
  unfold slc
  rw [show 18 + k = (16 + k) + 1 + 1 by omega, List.set_cons_succ, List.set_cons_succ, List.set_append_right _ _ (by omega), e, show 16 + k - 16 = k by omega, List.set_append_left _ _ (by omega), row8_set]
theorem set_chk {s : Slot} (h : Sok s) (k x : Nat) : (slc s).set (50 + k) (.int .u8 (x : Int)) = slc { s with chk := s.chk.set k x } := by
  have e : (row8 s.salt).length = 16 := by rw [row8_len]; exact h.salt.1
  have e2 : (row8 s.sld).length = 32 := by rw [row8_len]; exact h.sld.1
  unfold slc
  rw [show 50 + k = (48 + k) + 1 + 1 by omega, List.set_cons_succ, List.set_cons_succ, List.set_append_right _ _ (by omega), e, show 48 + k - 16 = 32 + k by omega, List.set_append_right _ _ (by omega), e2, show 32 + k - 32 = k by omega, row8_set]
theorem mids_salt {c : List Nat} (hc : ∀ k, gb c k < 256) (k : Nat) (hk : k < 16) (b d : Nat) : (slc (mids c k b d)).set (2 + k) (.int .u8 ((gb c (3 + k) : Nat) : Int)) = slc (mids c (k + 1) b d) := by
  rw [set_salt (mids_ok hc k b d) k _ hk]
  show slc ⟨_, _, (upTo 16 (c.drop 3) k).set k (gb c (3 + k)), _, _⟩ = slc ⟨_, _, upTo 16 (c.drop 3) (k + 1), _, _⟩
  rw [← upTo_step 16 (c.drop 3) k hk, gb_drop]; rfl
theorem mids_sld {c : List Nat} (hc : ∀ k, gb c k < 256) (k : Nat) (hk : k < 32) (a d : Nat) : (slc (mids c a k d)).set (18 + k) (.int .u8 ((gb c (19 + k) : Nat) : Int)) = slc (mids c a (k + 1) d) := by
  rw [set_sld (mids_ok hc a k d) k _ hk]
  show slc ⟨_, _, _, (upTo 32 (c.drop 19) k).set k (gb c (19 + k)), _⟩ = slc ⟨_, _, _, upTo 32 (c.drop 19) (k + 1), _⟩
  rw [← upTo_step 32 (c.drop 19) k hk, gb_drop]; rfl
theorem mids_chk {c : List Nat} (hc : ∀ k, gb c k < 256) (k : Nat) (hk : k < 32) (a b : Nat) : (slc (mids c a b k)).set (50 + k) (.int .u8 ((gb c (51 + k) : Nat) : Int)) = slc (mids c a b (k + 1)) := by
  rw [set_chk (mids_ok hc a b k) k _]
  show slc ⟨_, _, _, _, (upTo 32 (c.drop 51) k).set k (gb c (51 + k))⟩ = slc ⟨_, _, _, _, upTo 32 (c.drop 51) (k + 1)⟩
  rw [← upTo_step 32 (c.drop 51) k hk, gb_drop]; rfl
theorem mids_none (c : List Nat) : mids c 0 0 0 = ⟨gb c 0 == 1, gb c 1 * 256 + gb c 2, List.replicate 16 0, List.replicate 32 0, List.replicate 32 0⟩ := by
  unfold mids; rw [upTo_zero, upTo_zero, upTo_zero]
theorem builtRead (x : Bool) (y : Int) : Tryd.prog.built 28 [(0, .bool x), (1, .int .u16 y)] = some (.bool x :: .int .u16 y :: (row8 (List.replicate 16 0) ++ (row8 (List.replicate 32 0) ++ row8 (List.replicate 32 0)))).toArray := by kernel_rfl
end Go.Proofs.YtbepchikngoknaaDoor
