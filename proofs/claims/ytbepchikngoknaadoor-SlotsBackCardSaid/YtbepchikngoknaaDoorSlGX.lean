/- Texts of one subject in one file: SlPGetA, SlPGet. Own work. -/
import Derived.Test.YtbepchikngoknaaDoorSlPX
import Derived.Test.YtbepchikngoknaaDoorSlGR
import Derived.Test.YtbepchikngoknaaDoorRdrX
import Derived.Test.YtbepchikngoknaaDoorCopyZ
import Derived.Test.YtbepchikngoknaaDoorFactX
import Derived.Test.YtbepchikngoknaaDoorSlPPut
import Derived.Test.YtbepchikngoknaaDoorResults
/- A slot read by the program: contract. Written by gen_slpget.py. Own work. -/
namespace Go.Proofs.YtbepchikngoknaaDoor
open Go.ChangeShapes Go.WideShapes Go.ChangeAt Go.RowKit
open SL
/-- What is read of bytes as a slot: used, where the first one is not 0. -/
def rslot (l : List Nat) : Slot := ⟨gb l 0 != 0, gb l 1 * 256 + gb l 2, (l.drop 3).take 16, (l.drop 19).take 32, (l.drop 51).take 32⟩
theorem rslot_ok {l : List Nat} (hb : ∀ k, gb l k < 256) (h : 128 ≤ l.length) : Sok (rslot l) := by
  have hd : ∀ o n k, gb ((l.drop o).take n) k < 256 := fun o n k => gb_take_byte _ _ (fun j => by rw [gb_drop]; exact hb _) k
  refine ⟨?_, ⟨?_, hd _ _⟩, ⟨?_, hd _ _⟩, ⟨?_, hd _ _⟩⟩
  · show gb l 1 * 256 + gb l 2 < 65536
    have := hb 1; have := hb 2; omega
  all_goals (show ((l.drop _).take _).length = _; rw [List.length_take, List.length_drop]; omega)
theorem rp_ok {l : List Nat} {n : Nat} (h : n ≤ l.length) : rpGot l 0 (n : Int) = l.take n ∧ rpLeft l 0 (n : Int) = l.drop n ∧ rpErr l 0 (n : Int) = 0 := by
  have e : lookP (n : Int) l.length = 0 := by unfold lookP; rw [if_neg (by omega), if_neg (by omega)]
  unfold rpGot rpLeft rpErr
  rw [if_pos ⟨rfl, e⟩, if_pos ⟨rfl, e⟩, if_pos rfl, e]
  simp
theorem num_one (l : List Nat) (hb : ∀ k, gb l k < 256) (h : 1 ≤ l.length) : num (l.take 1) = gb l 0 := by
  rw [num_take l 0 (by omega), List.take_zero]
  show numStep 0 _ = _
  unfold numStep; have := hb 0; omega
theorem num_two (l : List Nat) (hb : ∀ k, gb l k < 256) (h : 2 ≤ l.length) : num (l.take 2) = gb l 0 * 256 + gb l 1 := by
  rw [num_take l 1 (by omega), num_one l hb (by omega)]
  unfold numStep; have := hb 0; omega
section
variable {N : Nat → Prop} {w : World} {rb : Nat} {l : List Nat}
theorem u8_rd (h : Rdr N w rb l 0) (hl : 1 ≤ l.length) : Calls Tryd.prog 52 #[.pointer (some ⟨rb, 0, none⟩)] w fun ev w' => ev = .returned (.int .u8 ((gb l 0 : Nat) : Int)) ∧ Rdr N w' rb (l.drop 1) 0 ∧ w.grownBy w' (some rb) := by
  have hp := u8_any w rb l 0 h
  obtain ⟨a, b, c⟩ := rp_ok (n := 1) hl
  rw [show ((1 : Nat) : Int) = 1 from rfl] at a b c
  rw [a, b, c, num_one l h.byte hl] at hp
  exact hp
theorem u16_rd (h : Rdr N w rb l 0) (hl : 2 ≤ l.length) : Calls Tryd.prog 53 #[.pointer (some ⟨rb, 0, none⟩)] w fun ev w' => ev = .returned (.int .u16 ((gb l 0 * 256 + gb l 1 : Nat) : Int)) ∧ Rdr N w' rb (l.drop 2) 0 ∧ w.grownBy w' (some rb) := by
  have hp := u16_any w rb l 0 h
  obtain ⟨a, b, c⟩ := rp_ok (n := 2) hl
  rw [show ((2 : Nat) : Int) = 2 from rfl] at a b c
  rw [a, b, c, num_two l h.byte hl] at hp
  exact hp
theorem take_rd (h : Rdr N w rb l 0) (n : Nat) (hn : n ≤ l.length) : Calls Tryd.prog 54 #[.pointer (some ⟨rb, 0, none⟩), .int .i64 (n : Int)] w fun ev w' => ∃ v, ev = .returned v ∧ Rd w' v (l.take n) ∧ Rdr N w' rb (l.drop n) 0 ∧ w.grownBy w' (some rb) := by
  have hp := take_any w rb l 0 (n : Int) h
  obtain ⟨a, b, c⟩ := rp_ok hn
  rw [a, b, c] at hp
  exact hp.mono fun e w' ⟨v, h1, h2, h3, h4⟩ => ⟨v, h1, h2.rd, h3, h4⟩
end
theorem only_past {a b c : World} {r : Nat} {row : Option Nat} (h : a.grownBy b (some r)) (k : b.grownBy c row) (hr : ∀ g, row = some g → a.heap.size ≤ g) : a.grownBy c (some r) :=
  ⟨k.os.trans h.os, k.tape.trans h.tape, k.output.trans h.output, Nat.le_trans h.size k.size, fun i hi hne => (k.block i (Nat.lt_of_lt_of_le hi h.size) (fun q => by have := hr i q.symm; omega)).trans (h.block i hi hne)⟩
/-- A reader, a slot in a variable, and the one for the result. -/
structure RS (N : Nat → Prop) (W : World) (rb sb : Nat) (D C : List Value) (l : List Nat) (w : World) : Prop where
  rdr : Rdr N w rb l 0
  blk : Blk w sb 28 C
  res : Blk w W.heap.size 28 D
  grow : W.grownBy w (some rb)
  hr : rb < W.heap.size
  hs : W.heap.size < sb
  hn : ∀ g, N g → g < W.heap.size
section
variable {N : Nat → Prop} {W w w' : World} {rb sb : Nat} {D C C' : List Value} {l l' : List Nat}
theorem RS.read (h : RS N W rb sb D C l w) (r : Rdr N w' rb l' 0) (g : w.grownBy w' (some rb)) : RS N W rb sb D C l' w' :=
  ⟨r, h.blk.grown g (fun e => by have := Option.some.inj e; have := h.hr; have := h.hs; omega), h.res.grown g (fun e => by have := Option.some.inj e; have := h.hr; omega), only_trans h.grow g, h.hr, h.hs, h.hn⟩
theorem Rdr.past (h : Rdr N w rb l 0) {b : Nat} (g : w.grownBy w' (some b)) (hb : rb ≠ b) (hN : ∀ g, N g → g ≠ b) : Rdr N w' rb l 0 := by
  obtain ⟨sv, h1, h2, h3⟩ := h
  exact ⟨sv, h1.grown g (fun e => hb (Option.some.inj e)), h2.grown g (.inr fun e => hN b (h3.2 b e) rfl), h3⟩
theorem RS.copy (h : RS N W rb sb D C l w) (b : Blk w' sb 28 C') (g : w.grownBy w' (some sb)) : RS N W rb sb D C' l w' :=
  ⟨h.rdr.past g (by have := h.hr; have := h.hs; omega) (fun g hg => by have := h.hn g hg; have := h.hs; omega), b, h.res.grown g (fun e => by have := Option.some.inj e; have := h.hs; omega), only_past h.grow g (fun g hg => by have := Option.some.inj hg; have := h.hs; omega), h.hr, h.hs, h.hn⟩
theorem RS.drew (h : RS N W rb sb D C l w) : RS N W rb sb D C l w.drew := ⟨h.rdr.drew, h.blk.drew, h.res.drew, only_trans h.grow (grown_of_below (Below.refl _ _).drew _), h.hr, h.hs, h.hn⟩
theorem RS.take (h : RS N W rb sb D C l w) (n : Nat) (hn : n ≤ l.length) : Calls Tryd.prog 54 #[.pointer (some ⟨rb, 0, none⟩), .int .i64 (n : Int)] w fun ev w' => ∃ v, ev = .returned v ∧ Rd w' v (l.take n) ∧ RS N W rb sb D C (l.drop n) w' :=
  (take_rd h.rdr n hn).mono fun _ _ ⟨v, h1, h2, h3, h4⟩ => ⟨v, h1, h2, h.read h3 h4⟩
/-- Bytes are taken and copied into the slot. -/
def GA (N : Nat → Prop) (W : World) (rb sb : Nat) (D C C' : List Value) (l m l' : List Nat) : Nat → Told → World → Prop
  | 0, _, w => RS N W rb sb D C l w
  | 1, r, w => ∃ v, r 3 = some v ∧ Rd w v m ∧ RS N W rb sb D C l' w
  | _, _, w => RS N W rb sb D C' l' w
end
theorem splice_salt {s : Slot} (h : Sok s) {K : List Nat} (hK : Bytes 16 K) : splice (slc s) 2 (row8 K) = slc { s with salt := K } := by
  have e : (row8 s.salt).length = 16 := by rw [row8_len]; exact h.salt.1
  have e3 : (row8 K).length = 16 := by rw [row8_len]; exact hK.1
  unfold splice slc
  rw [e3]
  show (_ :: _ :: List.take 0 (_ ++ (_ ++ _))) ++ (_ ++ List.drop 16 (_ ++ (_ ++ _))) = _
  rw [List.take_zero, List.drop_left' e]
  rfl
set_option maxRecDepth 100000 in
set_option maxHeartbeats 2000000 in
theorem pread_any (N : Nat → Prop) (w : World) (rb : Nat) (l : List Nat) (hR : Rdr N w rb l 0) (hN : ∀ g, N g → g < w.heap.size) (hl : 128 ≤ l.length) :
    Calls Tryd.prog 32 #[.pointer (some ⟨rb, 0, none⟩)] w fun e w' => e = .returned (.agg (slc (rslot l)).toArray) ∧ Rdr N w' rb (l.drop 128) 0 ∧ w.grownBy w' (some rb) := by
  have hby := hR.byte
  have hok := rslot_ok hby hl
  have hrlt := hR.lt
  obtain ⟨u, hu⟩ : ∃ u, u = (gb l 0 != 0) := ⟨_, rfl⟩
  obtain ⟨x0, hx0⟩ : ∃ x, x = gb l 0 := ⟨_, rfl⟩
  obtain ⟨tn, htn⟩ : ∃ n, n = gb l 1 * 256 + gb l 2 := ⟨_, rfl⟩
  obtain ⟨m2, hm2⟩ : ∃ m, m = (l.drop 3).take 16 := ⟨_, rfl⟩
  obtain ⟨m3, hm3⟩ : ∃ m, m = (l.drop 19).take 32 := ⟨_, rfl⟩
  obtain ⟨m4, hm4⟩ : ∃ m, m = (l.drop 51).take 32 := ⟨_, rfl⟩
  have b2 : Bytes 16 m2 := by rw [hm2]; exact hok.salt
  have b3 : Bytes 32 m3 := by rw [hm3]; exact hok.sld
  have b4 : Bytes 32 m4 := by rw [hm4]; exact hok.chk
  have htb : tn < 65536 := by rw [htn]; exact hok.turns
  have hs0 : Sok ⟨u, tn, List.replicate 16 0, List.replicate 32 0, List.replicate 32 0⟩ := ⟨htb, bytes_zero 16, bytes_zero 32, bytes_zero 32⟩
  have hs1 : Sok ⟨u, tn, m2, List.replicate 32 0, List.replicate 32 0⟩ := ⟨htb, b2, bytes_zero 32, bytes_zero 32⟩
  have hs2 : Sok ⟨u, tn, m2, m3, List.replicate 32 0⟩ := ⟨htb, b2, b3, bytes_zero 32⟩
  obtain ⟨C1, hC1⟩ : ∃ C, C = slc ⟨u, tn, List.replicate 16 0, List.replicate 32 0, List.replicate 32 0⟩ := ⟨_, rfl⟩
  obtain ⟨C2, hC2⟩ : ∃ C, C = slc ⟨u, tn, m2, List.replicate 32 0, List.replicate 32 0⟩ := ⟨_, rfl⟩
  obtain ⟨C3, hC3⟩ : ∃ C, C = slc ⟨u, tn, m2, m3, List.replicate 32 0⟩ := ⟨_, rfl⟩
  obtain ⟨F, hF⟩ : ∃ C, C = slc (rslot l) := ⟨_, rfl⟩
  have HFE : F = slc ⟨u, tn, m2, m3, m4⟩ := by rw [hF, hu, htn, hm2, hm3, hm4]; rfl
  have HM10 := Lib.hid (show 16 = min m2.length 16 ∧ 2 + 16 ≤ C1.length ∧ splice C1 2 (row8 (m2.take 16)) = C2 by
    refine ⟨by rw [b2.1]; rfl, by rw [hC1, slc_len hs0]; decide, ?_⟩
    rw [List.take_of_length_le (Nat.le_of_eq b2.1), hC1, splice_salt hs0 b2, hC2])
  have HM15 := Lib.hid (show 32 = min m3.length 32 ∧ 18 + 32 ≤ C2.length ∧ splice C2 18 (row8 (m3.take 32)) = C3 by
    refine ⟨by rw [b3.1]; rfl, by rw [hC2, slc_len hs1]; decide, ?_⟩
    rw [List.take_of_length_le (Nat.le_of_eq b3.1), hC2, splice_sld hs1 b3, hC3])
  have HM20 := Lib.hid (show 32 = min m4.length 32 ∧ 50 + 32 ≤ C3.length ∧ splice C3 50 (row8 (m4.take 32)) = F by
    refine ⟨by rw [b4.1]; rfl, by rw [hC3, slc_len hs2]; decide, ?_⟩
    rw [List.take_of_length_le (Nat.le_of_eq b4.1), hC3, splice_chk hs2 b4, HFE])
  have C82 := Lib.hid (show C1.length = 82 by rw [hC1]; exact slc_len hs0)
  have CONE := Lib.hid (show C1.toArray.all (·.oneCell') = true by rw [hC1]; exact slc_all _)
  have F82 := Lib.hid (show F.length = 82 by rw [hF]; exact slc_len hok)
  have FONE := Lib.hid (show F.toArray.all (·.oneCell') = true by rw [hF]; exact slc_all _)
  have HBD := Lib.hid (show Tryd.prog.built 28 [(0, .bool u), (1, .int .u16 (tn : Int))] = some C1.toArray by rw [hC1]; exact builtRead u tn)
  obtain ⟨D1, hD1⟩ : ∃ D, D = slc none_ := ⟨_, rfl⟩
  have hz1 : ∀ w, (zeroValue 28).run Tryd.prog w = .ok (.agg D1.toArray) w := by rw [hD1]; exact zeroSl
  have hd1 : D1.length = 82 := by rw [hD1]; exact slc_len none_ok
  have W1 := (Below.refl w.heap.size w).alloc (Nat.le_refl _) (.cells D1.toArray 28)
  have R1 := Lib.hid (Blk.new w 28 D1 _ rfl)
  have HU8 := Lib.hid (show Calls Tryd.prog 52 #[.pointer (some ⟨rb, 0, none⟩)] (w.alloc (.cells D1.toArray 28)) fun ev w' => ev = .returned (.int .u8 (x0 : Int)) ∧ Rdr N w' rb (l.drop 1) 0 ∧ (w.alloc (.cells D1.toArray 28)).grownBy w' (some rb) by
    rw [hx0]; exact u8_rd (hR.below W1) (by omega))
  have HU16 := Lib.hid (fun W (h : Rdr N W rb (l.drop 1) 0) => (show Calls Tryd.prog 53 #[.pointer (some ⟨rb, 0, none⟩)] W fun ev w' => ev = .returned (.int .u16 (tn : Int)) ∧ Rdr N w' rb (l.drop 3) 0 ∧ W.grownBy w' (some rb) by
    have h2 := u16_rd h (by rw [List.length_drop]; omega)
    rw [show gb (l.drop 1) 0 * 256 + gb (l.drop 1) 1 = tn by rw [gb_drop, gb_drop, htn], List.drop_drop] at h2
    exact h2))
  have hne : ((x0 : Int) != 0) = u := by rw [hu, hx0, Bool.eq_iff_iff, bne_iff_ne, bne_iff_ne]; omega
  have HW1 := Lib.hid W1
  have HM2 := Lib.hid hm2
  have HM3 := Lib.hid hm3
  have HM4 := Lib.hid hm4
  have HN := Lib.hid hN
  have HL := Lib.hid hl
  have HR := Lib.hid hrlt
  rw [← hF]
  clear hby hok hu htn hm2 hm3 hm4 b2 b3 b4 hs0 hs1 hs2 hC1 hC2 hC3 hF HFE hD1 W1 hR hN hl hx0 htb hrlt
  go_enter Tryd.func32, Tryd.ntmps32
  go_upto_region 2 with (first
    | (go_at_call 52; (with_reducible refine HU8.out.mono ?_); rintro e w2 ⟨rfl, r2, g2⟩; have R2 := Lib.hid (R1.out.grown g2 (fun e => by have := Option.some.inj e; have := HR.out; omega)); have G2 := Lib.hid (only_after HW1.out g2); have HUB := Lib.hid (HU16.out w2 r2); clear r2 g2)
    | (go_at_call 53; (with_reducible refine HUB.out.mono ?_); rintro e w3 ⟨rfl, r3, g3⟩; have R3 := Lib.hid (R2.out.grown g3 (fun e => by have := Option.some.inj e; have := HR.out; omega)); have G3 := Lib.hid (only_trans G2.out g3); have K3 := Lib.hid r3; clear r3 g3)
    | (refine wpList_buildTo rfl 28 _ rfl (some 9) rfl C1.toArray (Eq.trans (b := Tryd.prog.built 28 [(0, .bool u), (1, .int .u16 (tn : Int))]) (by kernel_rfl) HBD.out) ?_)
    | (refine wpList_store_blk rfl 28 (.tmp 3) (.tmp 9) rfl w3.heap.size 0 C1 rfl rfl 28 D1 (Blk.new w3 28 D1 _ rfl) (by rw [C82.out, hd1]; exact Nat.le_refl _) (by rw [C82.out]; exact infoSl) CONE.out ?_; intro w4 b4 g4; rw [splice_all _ _ (by rw [C82.out, hd1])] at b4; have hb4 := alloc_turn (Below.refl _ _) g4; have HRS := Lib.hid (show RS N w rb w3.heap.size D1 C1 (l.drop 3) w4 from ⟨K3.out.below hb4, b4, R3.out.below hb4 R3.out.lt, only_trans G3.out (grown_of_below hb4 _), HR.out, R3.out.lt, HN.out⟩); clear b4 g4 hb4))
  obtain ⟨sb, hsb⟩ : ∃ b, b = w3.heap.size := ⟨_, rfl⟩
  rw [← hsb] at HRS ⊢
  clear hsb R3 G3 K3 R2 G2 HUB HU8 HU16 R1 HW1 HBD CONE C82 hne
  have HT10 := Lib.hid (fun W (h : RS N w rb sb D1 C1 (l.drop 3) W) => (show Calls Tryd.prog 54 #[.pointer (some ⟨rb, 0, none⟩), .int .i64 16] W fun ev w' => ∃ v, ev = .returned v ∧ Rd w' v m2 ∧ RS N w rb sb D1 C1 (l.drop 19) w' by
    have h2 := h.take 16 (by rw [List.length_drop]; have := HL.out; omega)
    rw [← HM2.out, List.drop_drop] at h2; exact h2))
  have HT15 := Lib.hid (fun W (h : RS N w rb sb D1 C2 (l.drop 19) W) => (show Calls Tryd.prog 54 #[.pointer (some ⟨rb, 0, none⟩), .int .i64 32] W fun ev w' => ∃ v, ev = .returned v ∧ Rd w' v m3 ∧ RS N w rb sb D1 C2 (l.drop 51) w' by
    have h2 := h.take 32 (by rw [List.length_drop]; have := HL.out; omega)
    rw [← HM3.out, List.drop_drop] at h2; exact h2))
  have HT20 := Lib.hid (fun W (h : RS N w rb sb D1 C3 (l.drop 51) W) => (show Calls Tryd.prog 54 #[.pointer (some ⟨rb, 0, none⟩), .int .i64 32] W fun ev w' => ∃ v, ev = .returned v ∧ Rd w' v m4 ∧ RS N w rb sb D1 C3 (l.drop 83) w' by
    have h2 := h.take 32 (by rw [List.length_drop]; have := HL.out; omega)
    rw [← HM4.out, List.drop_drop] at h2; exact h2))
  have HT25 := Lib.hid (fun W (h : RS N w rb sb D1 F (l.drop 83) W) => (show Calls Tryd.prog 54 #[.pointer (some ⟨rb, 0, none⟩), .int .i64 45] W fun ev w' => ∃ v, ev = .returned v ∧ RS N w rb sb D1 F (l.drop 128) w' from
    (h.take 45 (by rw [List.length_drop]; have := HL.out; omega)).mono fun ev w' ⟨v, h1, _, h3⟩ => ⟨v, h1, by rw [List.drop_drop] at h3; exact h3⟩))
  refine wp_region_z (by kernel_rfl) [3, 4] (by kernel_rfl) (by kernel_rfl) (Stg [3, 4] (GA N w rb sb D1 C1 C2 (l.drop 3) m2 (l.drop 19))) [.pre (.pointer (some ⟨sb, 2, none⟩)), .pre (.slice (some ⟨sb, 2, none⟩) 16 16), .pre (.pointer (some ⟨rb, 0, none⟩)), .of 3 (fun u v => v = u), .any] (fun i hi hq => by
        simp only [List.mem_cons, List.mem_nil_iff, or_false] at hi
        rcases hi with rfl | rfl
        · exact absurd hq (by decide +kernel)
        · rfl) (Stg.zero (show RS N w rb sb D1 C1 (l.drop 3) _ from HRS.out.drew)) ?_ ?_
  · refine ⟨?_, ?_, ?_, ?_, ?_, trivial⟩
    · intro a w5 r hF hI hns hri h1 h2 hd
      have e3 : a.eval (.tmp 3) = .pointer (some ⟨sb, 0, none⟩) := hF 3 (by decide +kernel)
      exact doesZ_read (v := .pointer (some ⟨sb, 2, none⟩)) (by decide) rfl (ex_fieldAddr rfl e3 (by go_simp)) hI rfl
    · intro a w5 r hF hI hns hri h1 h2 hd
      have e10 : a.eval (.tmp 10) = .pointer (some ⟨sb, 2, none⟩) := hd 0 (by decide +kernel)
      have f10 : a.tmps[10]?.getD undef = .pointer (some ⟨sb, 2, none⟩) := by rw [← Array.getD_eq_getD_getElem?]; exact e10
      exact doesZ_read (v := .slice (some ⟨sb, 2, none⟩) 16 16) (by decide) rfl (by unfold execOp; simp only [e10]; go_simp) hI rfl
    · intro a w5 r hF hI hns hri h1 h2 hd
      have e0 : a.eval (.tmp 0) = .pointer (some ⟨rb, 0, none⟩) := hF 0 (by decide +kernel)
      exact doesZ_read (v := .pointer (some ⟨rb, 0, none⟩)) (by decide) rfl (ex_move rfl e0) hI rfl
    · intro a w5 r hF hI hns hri h1 h2 hd
      have e12 : a.eval (.tmp 12) = .pointer (some ⟨rb, 0, none⟩) := hd 2 (by decide +kernel)
      have hA : GA N w rb sb D1 C1 C2 (l.drop 3) m2 (l.drop 19) 0 r w5 := hI.at_ 0 (.inl rfl) (.inr ⟨by decide, hri⟩)
      have hA : RS N w rb sb D1 C1 (l.drop 3) w5 := hA
      exact doesZ_call (by decide) rfl (ex_call (vs := #[.pointer (some ⟨rb, 0, none⟩), .int .i64 16]) rfl (by simp only [List.map_toArray, List.map_cons, List.map_nil, e12]; rfl) (by go_simp)) ((HT10.out w5 hA).mono fun e w6 hh => by obtain ⟨v, he, hrd, hrs⟩ := hh; exact ⟨v, he, hI.next 0 3 v rfl (by decide) (.inl rfl) hri (by decide) ⟨v, Told.set_same _ _ _, hrd, hrs⟩, v, Told.set_same _ _ _, rfl⟩)
    · intro a w5 r hF hI hns hri h1 h2 hd
      have e11 : a.eval (.tmp 11) = .slice (some ⟨sb, 2, none⟩) 16 16 := hd 1 (by decide +kernel)
      obtain ⟨u13, hu13, e13⟩ : ∃ u, r 3 = some u ∧ a.eval (.tmp 13) = u := hd 3 (by decide +kernel)
      have hA : GA N w rb sb D1 C1 C2 (l.drop 3) m2 (l.drop 19) 1 r w5 := hI.at_ 1 (.inr ⟨by decide, h2 3 (by decide) (by decide +kernel)⟩) (.inr ⟨by decide, hri⟩)
      obtain ⟨v0, hv0, hrd, hA⟩ := hA
      obtain rfl := Option.some.inj (hv0.symm.trans hu13)
      exact doesZ_copyB (by decide) rfl (.tmp 11) (.tmp 13) 31 31 rfl Tryd.underlying31 sb 2 16 16 28 C1 hA.blk (some ⟨sb, 2, none⟩) e11 _ e13 m2 hrd 16 HM10.out.1 (fun _ => rfl) HM10.out.2.1 (fun w' b' g' => ⟨hI.next 1 4 _ rfl (by decide) (.inr ⟨by decide, h2 3 (by decide) (by decide +kernel)⟩) hri (by decide) (show RS N w rb sb D1 C2 (l.drop 19) w' from hA.copy (by rw [HM10.out.2.2] at b'; exact b') g'), trivial⟩)
  · intro vs r w7 hI hS hvs
    have hz : RS N w rb sb D1 C2 (l.drop 19) w7 := hI.at_ 2 (.inr ⟨by decide, hS 4 (by decide)⟩) (.inl rfl)
    have HRS := Lib.hid hz
    clear hI hS hvs hz
    simp only [putOps, Act.put, List.setIfInBounds_toArray, List.set_cons_zero, List.set_cons_succ]
    generalize vs 0 = y0 at *; generalize vs 1 = y1 at *; generalize vs 2 = y2 at *; generalize vs 3 = y3 at *; generalize vs 4 = y4 at *
    go_upto_region 3 with fail
    refine wp_region_z (by kernel_rfl) [3, 4] (by kernel_rfl) (by kernel_rfl) (Stg [3, 4] (GA N w rb sb D1 C2 C3 (l.drop 19) m3 (l.drop 51))) [.pre (.pointer (some ⟨sb, 18, none⟩)), .pre (.slice (some ⟨sb, 18, none⟩) 32 32), .pre (.pointer (some ⟨rb, 0, none⟩)), .of 3 (fun u v => v = u), .any] (fun i hi hq => by
          simp only [List.mem_cons, List.mem_nil_iff, or_false] at hi
          rcases hi with rfl | rfl
          · exact absurd hq (by decide +kernel)
          · rfl) (Stg.zero (show RS N w rb sb D1 C2 (l.drop 19) _ from HRS.out.drew)) ?_ ?_
    · refine ⟨?_, ?_, ?_, ?_, ?_, trivial⟩
      · intro a w5 r hF hI hns hri h1 h2 hd
        have e3 : a.eval (.tmp 3) = .pointer (some ⟨sb, 0, none⟩) := hF 3 (by decide +kernel)
        exact doesZ_read (v := .pointer (some ⟨sb, 18, none⟩)) (by decide) rfl (ex_fieldAddr rfl e3 (by go_simp)) hI rfl
      · intro a w5 r hF hI hns hri h1 h2 hd
        have e15 : a.eval (.tmp 15) = .pointer (some ⟨sb, 18, none⟩) := hd 0 (by decide +kernel)
        have f15 : a.tmps[15]?.getD undef = .pointer (some ⟨sb, 18, none⟩) := by rw [← Array.getD_eq_getD_getElem?]; exact e15
        exact doesZ_read (v := .slice (some ⟨sb, 18, none⟩) 32 32) (by decide) rfl (by unfold execOp; simp only [e15]; go_simp) hI rfl
      · intro a w5 r hF hI hns hri h1 h2 hd
        have e0 : a.eval (.tmp 0) = .pointer (some ⟨rb, 0, none⟩) := hF 0 (by decide +kernel)
        exact doesZ_read (v := .pointer (some ⟨rb, 0, none⟩)) (by decide) rfl (ex_move rfl e0) hI rfl
      · intro a w5 r hF hI hns hri h1 h2 hd
        have e17 : a.eval (.tmp 17) = .pointer (some ⟨rb, 0, none⟩) := hd 2 (by decide +kernel)
        have hA : GA N w rb sb D1 C2 C3 (l.drop 19) m3 (l.drop 51) 0 r w5 := hI.at_ 0 (.inl rfl) (.inr ⟨by decide, hri⟩)
        have hA : RS N w rb sb D1 C2 (l.drop 19) w5 := hA
        exact doesZ_call (by decide) rfl (ex_call (vs := #[.pointer (some ⟨rb, 0, none⟩), .int .i64 32]) rfl (by simp only [List.map_toArray, List.map_cons, List.map_nil, e17]; rfl) (by go_simp)) ((HT15.out w5 hA).mono fun e w6 hh => by obtain ⟨v, he, hrd, hrs⟩ := hh; exact ⟨v, he, hI.next 0 3 v rfl (by decide) (.inl rfl) hri (by decide) ⟨v, Told.set_same _ _ _, hrd, hrs⟩, v, Told.set_same _ _ _, rfl⟩)
      · intro a w5 r hF hI hns hri h1 h2 hd
        have e16 : a.eval (.tmp 16) = .slice (some ⟨sb, 18, none⟩) 32 32 := hd 1 (by decide +kernel)
        obtain ⟨u18, hu18, e18⟩ : ∃ u, r 3 = some u ∧ a.eval (.tmp 18) = u := hd 3 (by decide +kernel)
        have hA : GA N w rb sb D1 C2 C3 (l.drop 19) m3 (l.drop 51) 1 r w5 := hI.at_ 1 (.inr ⟨by decide, h2 3 (by decide) (by decide +kernel)⟩) (.inr ⟨by decide, hri⟩)
        obtain ⟨v0, hv0, hrd, hA⟩ := hA
        obtain rfl := Option.some.inj (hv0.symm.trans hu18)
        exact doesZ_copyB (by decide) rfl (.tmp 16) (.tmp 18) 31 31 rfl Tryd.underlying31 sb 18 32 32 28 C2 hA.blk (some ⟨sb, 18, none⟩) e16 _ e18 m3 hrd 32 HM15.out.1 (fun _ => rfl) HM15.out.2.1 (fun w' b' g' => ⟨hI.next 1 4 _ rfl (by decide) (.inr ⟨by decide, h2 3 (by decide) (by decide +kernel)⟩) hri (by decide) (show RS N w rb sb D1 C3 (l.drop 51) w' from hA.copy (by rw [HM15.out.2.2] at b'; exact b') g'), trivial⟩)
    · intro vs r w7 hI hS hvs
      have hz : RS N w rb sb D1 C3 (l.drop 51) w7 := hI.at_ 2 (.inr ⟨by decide, hS 4 (by decide)⟩) (.inl rfl)
      have HRS := Lib.hid hz
      clear hI hS hvs hz
      simp only [putOps, Act.put, List.setIfInBounds_toArray, List.set_cons_zero, List.set_cons_succ]
      generalize vs 0 = y0 at *; generalize vs 1 = y1 at *; generalize vs 2 = y2 at *; generalize vs 3 = y3 at *; generalize vs 4 = y4 at *
      go_upto_region 4 with fail
      refine wp_region_z (by kernel_rfl) [3, 4] (by kernel_rfl) (by kernel_rfl) (Stg [3, 4] (GA N w rb sb D1 C3 F (l.drop 51) m4 (l.drop 83))) [.pre (.pointer (some ⟨sb, 50, none⟩)), .pre (.slice (some ⟨sb, 50, none⟩) 32 32), .pre (.pointer (some ⟨rb, 0, none⟩)), .of 3 (fun u v => v = u), .any] (fun i hi hq => by
            simp only [List.mem_cons, List.mem_nil_iff, or_false] at hi
            rcases hi with rfl | rfl
            · exact absurd hq (by decide +kernel)
            · rfl) (Stg.zero (show RS N w rb sb D1 C3 (l.drop 51) _ from HRS.out.drew)) ?_ ?_
      · refine ⟨?_, ?_, ?_, ?_, ?_, trivial⟩
        · intro a w5 r hF hI hns hri h1 h2 hd
          have e3 : a.eval (.tmp 3) = .pointer (some ⟨sb, 0, none⟩) := hF 3 (by decide +kernel)
          exact doesZ_read (v := .pointer (some ⟨sb, 50, none⟩)) (by decide) rfl (ex_fieldAddr rfl e3 (by go_simp)) hI rfl
        · intro a w5 r hF hI hns hri h1 h2 hd
          have e20 : a.eval (.tmp 20) = .pointer (some ⟨sb, 50, none⟩) := hd 0 (by decide +kernel)
          have f20 : a.tmps[20]?.getD undef = .pointer (some ⟨sb, 50, none⟩) := by rw [← Array.getD_eq_getD_getElem?]; exact e20
          exact doesZ_read (v := .slice (some ⟨sb, 50, none⟩) 32 32) (by decide) rfl (by unfold execOp; simp only [e20]; go_simp) hI rfl
        · intro a w5 r hF hI hns hri h1 h2 hd
          have e0 : a.eval (.tmp 0) = .pointer (some ⟨rb, 0, none⟩) := hF 0 (by decide +kernel)
          exact doesZ_read (v := .pointer (some ⟨rb, 0, none⟩)) (by decide) rfl (ex_move rfl e0) hI rfl
        · intro a w5 r hF hI hns hri h1 h2 hd
          have e22 : a.eval (.tmp 22) = .pointer (some ⟨rb, 0, none⟩) := hd 2 (by decide +kernel)
          have hA : GA N w rb sb D1 C3 F (l.drop 51) m4 (l.drop 83) 0 r w5 := hI.at_ 0 (.inl rfl) (.inr ⟨by decide, hri⟩)
          have hA : RS N w rb sb D1 C3 (l.drop 51) w5 := hA
          exact doesZ_call (by decide) rfl (ex_call (vs := #[.pointer (some ⟨rb, 0, none⟩), .int .i64 32]) rfl (by simp only [List.map_toArray, List.map_cons, List.map_nil, e22]; rfl) (by go_simp)) ((HT20.out w5 hA).mono fun e w6 hh => by obtain ⟨v, he, hrd, hrs⟩ := hh; exact ⟨v, he, hI.next 0 3 v rfl (by decide) (.inl rfl) hri (by decide) ⟨v, Told.set_same _ _ _, hrd, hrs⟩, v, Told.set_same _ _ _, rfl⟩)
        · intro a w5 r hF hI hns hri h1 h2 hd
          have e21 : a.eval (.tmp 21) = .slice (some ⟨sb, 50, none⟩) 32 32 := hd 1 (by decide +kernel)
          obtain ⟨u23, hu23, e23⟩ : ∃ u, r 3 = some u ∧ a.eval (.tmp 23) = u := hd 3 (by decide +kernel)
          have hA : GA N w rb sb D1 C3 F (l.drop 51) m4 (l.drop 83) 1 r w5 := hI.at_ 1 (.inr ⟨by decide, h2 3 (by decide) (by decide +kernel)⟩) (.inr ⟨by decide, hri⟩)
          obtain ⟨v0, hv0, hrd, hA⟩ := hA
          obtain rfl := Option.some.inj (hv0.symm.trans hu23)
          exact doesZ_copyB (by decide) rfl (.tmp 21) (.tmp 23) 31 31 rfl Tryd.underlying31 sb 50 32 32 28 C3 hA.blk (some ⟨sb, 50, none⟩) e21 _ e23 m4 hrd 32 HM20.out.1 (fun _ => rfl) HM20.out.2.1 (fun w' b' g' => ⟨hI.next 1 4 _ rfl (by decide) (.inr ⟨by decide, h2 3 (by decide) (by decide +kernel)⟩) hri (by decide) (show RS N w rb sb D1 F (l.drop 83) w' from hA.copy (by rw [HM20.out.2.2] at b'; exact b') g'), trivial⟩)
      · intro vs r w7 hI hS hvs
        have hz : RS N w rb sb D1 F (l.drop 83) w7 := hI.at_ 2 (.inr ⟨by decide, hS 4 (by decide)⟩) (.inl rfl)
        have HRS := Lib.hid hz
        clear hI hS hvs hz
        simp only [putOps, Act.put, List.setIfInBounds_toArray, List.set_cons_zero, List.set_cons_succ]
        generalize vs 0 = y0 at *; generalize vs 1 = y1 at *; generalize vs 2 = y2 at *; generalize vs 3 = y3 at *; generalize vs 4 = y4 at *
        go_wp2_with (first
          | (go_at_call 54; (with_reducible refine (HT25.out _ HRS.out).mono ?_); rintro e w8 ⟨v8, rfl, hz8⟩; have HRS8 := Lib.hid hz8; clear hz8)
          | (refine wpList_load_mid rfl 28 (.tmp 3) rfl sb 0 rfl F _ HRS8.out.blk.range Tryd.underlying28 rfl (by rw [F82.out]; exact infoSl) ?_)
          | (refine wpList_store_blk rfl 28 (.tmp 2) (.tmp 27) rfl w.heap.size 0 F rfl rfl 28 D1 HRS8.out.res (by rw [F82.out, hd1]; exact Nat.le_refl _) (by rw [F82.out]; exact infoSl) FONE.out ?_; intro w9 b9 g9; rw [splice_all _ _ (by rw [F82.out, hd1])] at b9; have U9 := Lib.hid b9; have K9 := Lib.hid (HRS8.out.rdr.past g9 (by have := HR.out; omega) (fun g hg => by have := HN.out g hg; omega)); have G9 := Lib.hid (only_past HRS8.out.grow g9 (fun g hg => by have := Option.some.inj hg; omega)); clear b9 g9))
        exact bodyPost_ret (results_mid rfl _ _ w.heap.size F _ rfl U9.out.range Tryd.underlying28 rfl (by rw [F82.out]; exact infoSl)) rfl ⟨rfl, K9.out, G9.out⟩
end Go.Proofs.YtbepchikngoknaaDoor
/- A table of key slots that the program reads out of bytes: contract. Written by gen_slpget.py. Own work. -/
namespace Go.Proofs.YtbepchikngoknaaDoor
open Go.ChangeShapes Go.WideShapes Go.ChangeAt Go.RowKit
open SL
/-- The table behind k slots read, by whatever reading. -/
def tabF (f : Nat → Slot) (k : Nat) : List Slot := (List.range 8).map fun j => if j < k then f j else none_
theorem tabF_at (f : Nat → Slot) (k j : Nat) (hj : j < 8) : (tabF f k)[j]? = some (if j < k then f j else none_) := by
  unfold tabF; rw [List.getElem?_map, List.getElem?_range hj]; rfl
theorem tabF_zero (f : Nat → Slot) : tabF f 0 = zero := rfl
theorem tabF_all (f : Nat → Slot) : tabF f 8 = (List.range 8).map f := by
  unfold tabF
  apply List.map_congr_left
  intro j hj
  rw [if_pos (List.mem_range.1 hj)]
theorem tabF_step (f : Nat → Slot) (k : Nat) (hk : k < 8) : (tabF f k).set k (f k) = tabF f (k + 1) := by
  apply List.ext_getElem?
  intro j
  by_cases hj : j < 8
  · rw [List.getElem?_set, tabF_at f k j hj, tabF_at f (k + 1) j hj]
    by_cases e : k = j
    · subst e; rw [if_pos rfl, if_pos (by simpa [tabF] using hk), if_pos (by omega)]
    · rw [if_neg e]
      by_cases h : j < k
      · rw [if_pos h, if_pos (by omega)]
      · rw [if_neg h, if_neg (by omega)]
  · rw [List.getElem?_eq_none (by rw [List.length_set]; simp [tabF]; omega), List.getElem?_eq_none (by simp [tabF]; omega)]
theorem tabF_ok {f : Nat → Slot} (h : ∀ j, j < 8 → Sok (f j)) (k : Nat) : Tok (tabF f k) := ⟨by simp [tabF], fun s hs => by
  unfold tabF at hs
  obtain ⟨j, hj, rfl⟩ := List.mem_map.1 hs
  split
  · exact h j (List.mem_range.1 hj)
  · exact none_ok⟩
/-- The i-th slot as the program reads it. -/
def pslot (b : List Nat) (i : Nat) : Slot := rslot (b.drop (i * 128))
theorem pslot_ok {b : List Nat} (hb : b.length = 1024) (hy : ∀ k, gb b k < 256) {i : Nat} (hi : i < 8) : Sok (pslot b i) := rslot_ok (fun k => by rw [gb_drop]; exact hy _) (by rw [List.length_drop, hb]; omega)
def preads (b : List Nat) : List Slot := (List.range 8).map (pslot b)
theorem preads_ok {b : List Nat} (hb : b.length = 1024) (hy : ∀ k, gb b k < 256) : Tok (preads b) := by
  have h := tabF_ok (f := pslot b) (fun j hj => pslot_ok hb hy hj) 8
  rw [tabF_all] at h; exact h
theorem preads_at (b : List Nat) {i : Nat} (hi : i < 8) : at_ (preads b) i = pslot b i := by
  unfold at_ preads
  rw [List.getD_eq_getElem?_getD, List.getElem?_map, List.getElem?_range hi]; rfl
theorem reads_at (b : List Nat) {i : Nat} (hi : i < 8) : at_ (reads b) i = read (piece b i) := by
  unfold at_ reads
  rw [List.getD_eq_getElem?_getD, List.getElem?_map, List.getElem?_range hi]; rfl
theorem pslot_piece (b : List Nat) (i : Nat) : pslot b i = ⟨gb (piece b i) 0 != 0, (read (piece b i)).turns, (read (piece b i)).salt, (read (piece b i)).sld, (read (piece b i)).chk⟩ := by
  have g : ∀ k, k < 128 → gb (piece b i) k = gb (b.drop (i * 128)) k := fun k hk => by unfold piece; rw [gb_take _ _ _ hk]
  have d : ∀ o n, o + n ≤ 128 → ((piece b i).drop o).take n = ((b.drop (i * 128)).drop o).take n := fun o n h => by
    unfold piece
    rw [List.drop_take, List.take_take, Nat.min_eq_left (by omega)]
  unfold pslot rslot SL.read
  simp only [g 0 (by decide), g 1 (by decide), g 2 (by decide), d 3 16 (by decide), d 19 32 (by decide), d 51 32 (by decide)]
/-- A first byte 0 or 1 is read alike. -/
theorem pslot_read {b : List Nat} {i : Nat} (h : gb (piece b i) 0 = 0 ∨ gb (piece b i) 0 = 1) : pslot b i = read (piece b i) := by
  rw [pslot_piece]
  have e : (gb (piece b i) 0 != 0) = (read (piece b i)).used := by
    show _ = (gb (piece b i) 0 == 1)
    rcases h with h | h <;> rw [h] <;> rfl
  rw [e]
theorem isPut_same {b : List Nat} (hy : ∀ k, gb b k < 256) (h : isPut b) : preads b = reads b ∧ ∀ i, i < 8 → may (pslot b i) = true := by
  have hT := reads_ok h.1 hy
  have hq : ∀ i, i < 8 → pslot b i = read (piece b i) := fun i hi => by
    apply pslot_read
    have e := piece_put hT.ok i (by rw [hT.len]; exact hi)
    rw [h.2.2] at e
    rw [e]
    show bit _ = 0 ∨ bit _ = 1
    unfold bit; split
    · exact .inr rfl
    · exact .inl rfl
  refine ⟨?_, fun i hi => by rw [hq i hi]; exact h.2.1 i hi⟩
  unfold preads reads
  apply List.map_congr_left
  intro j hj
  exact hq j (List.mem_range.1 hj)
theorem isPut_of {b : List Nat} (hb : b.length = 1024) (hy : ∀ k, gb b k < 256) (h1 : ∀ i, i < 8 → may (pslot b i) = true) (h2 : put (preads b) = b) : isPut b := by
  have hT := preads_ok hb hy
  have e := reads_put hT
  rw [h2] at e
  refine ⟨hb, fun i hi => ?_, by rw [e]; exact h2⟩
  have := h1 i hi
  rw [← preads_at b hi, ← e, reads_at b hi] at this
  exact this
set_option maxRecDepth 100000 in
set_option maxHeartbeats 4000000 in
theorem sget_any (b : List Nat) (v : Value) (w : World) (hv : Rd w v b) : Calls Tryd.prog 16 #[v] w fun e w' => e = .returned (.tuple #[.agg (tbc (gotT b)).toArray, .int .i64 (gerr b)]) ∧ Below w.heap.size w w' := by
  obtain ⟨va, vc, rfl, hvc⟩ := hv.shape
  obtain ⟨bl, hbl⟩ : ∃ n, n = b.length := ⟨_, rfl⟩
  obtain ⟨Z0, hZ0⟩ : ∃ D, D = tbc zero := ⟨_, rfl⟩
  obtain ⟨RT, hRT⟩ : ∃ x, x = tbc (gotT b) := ⟨_, rfl⟩
  obtain ⟨RE, hRE⟩ : ∃ x, x = gerr b := ⟨_, rfl⟩
  have hz : ∀ w, (zeroValue 30).run Tryd.prog w = .ok (.agg Z0.toArray) w := by rw [hZ0]; exact zeroTb
  have hz656 : Z0.length = 656 := by rw [hZ0]; exact tbc_len zero_ok
  have hbz : Tryd.prog.built 30 [] = some Z0.toArray := by rw [hZ0]; exact builtTb
  have ZONE := Lib.hid (show Z0.toArray.all (·.oneCell') = true by rw [hZ0]; exact tbc_all _)
  have W2 := Lib.hid ((Below.refl w.heap.size w).alloc (Nat.le_refl _) (.cells Z0.toArray 30))
  have R2 := Lib.hid (Blk.new w 30 Z0 _ rfl)
  have HBY := Lib.hid hv.byte
  have HV := Lib.hid hv
  have HZE := Lib.hid hZ0
  have HRT := Lib.hid hRT
  have HRE := Lib.hid hRE
  have HBL := Lib.hid hbl
  rw [← hbl] at HV hvc ⊢
  rw [← hRT, ← hRE]
  have HNO := Lib.hid (fun (h : ¬ isPut b) => (show (Ending.returned (.tuple #[.agg Z0.toArray, .int .i64 4]) : Ending) = .returned (.tuple #[.agg RT.toArray, .int .i64 RE]) by rw [HRT.out, HRE.out, (got_not h).1, (got_not h).2, ← HZE.out]))
  clear hv hZ0 hRT hRE hbl
  by_cases hlen : bl = 1024
  · subst hlen
    have hlz : ((1024 : Nat) : Int) = 1024 := rfl
    have W3 := Lib.hid (W2.out.alloc W2.out.size (.cells Z0.toArray 30))
    have R3 := Lib.hid (R2.out.alloc (.cells Z0.toArray 30))
    have T3 := Lib.hid (Blk.new (w.alloc (.cells Z0.toArray 30)) 30 Z0 (w.heap.size + 1) (by simp))
    have HRD := Lib.hid (read_any _ _ _ (HV.out.below W3.out))
    go_enter Tryd.func16, Tryd.ntmps16
    go_upto_region 4 with fail
    obtain ⟨w3, hw3⟩ : ∃ x, x = (w.alloc (.cells Z0.toArray 30)).alloc (.cells Z0.toArray 30) := ⟨_, rfl⟩
    rw [← hw3] at W3 R3 T3 HRD ⊢
    clear hw3 W2 R2
    go_wp2_with (go_at_call 31; (with_reducible refine HRD.out.mono ?_); rintro e w4 ⟨rb, rfl, r4, b4, l4⟩; have K4 := Lib.hid r4; have W4 := Lib.hid (W3.out.on b4); have R4 := Lib.hid (R3.out.below b4 R3.out.lt); have T4 := Lib.hid (T3.out.below b4 T3.out.lt); have HRB := Lib.hid (show w.heap.size + 1 < rb by have := T3.out.lt; omega); clear r4 b4 l4)
    obtain ⟨N, hN⟩ : ∃ N : Nat → Prop, N = fun g => w3.heap.size ≤ g ∧ g < w4.heap.size := ⟨_, rfl⟩
    rw [← hN] at K4
    have HN1 := Lib.hid (show ∀ g, N g → w.heap.size + 1 < g by intro g hg; rw [hN] at hg; have := T3.out.lt; omega)
    have HN2 := Lib.hid (show ∀ g, N g → g < w4.heap.size by intro g hg; rw [hN] at hg; exact hg.2)
    clear hN W3 R3 T3 HRD
    go_loopw [13] (fun x wr => ∃ k : Nat, k ≤ 8 ∧ x = .int .i64 (k : Int) ∧ (∀ j, j < k → may (pslot b j) = true) ∧ Rdr N wr rb (b.drop (k * 128)) 0 ∧ w4.heap.size ≤ wr.heap.size ∧ Blk wr w.heap.size 30 Z0 ∧ Blk wr (w.heap.size + 1) 30 (tbc (tabF (pslot b) k)) ∧ Below w.heap.size w wr) (fun x _ => 8 - (intOf x).toNat)
    case atStart => exact ⟨0, by decide, rfl, fun j hj => absurd hj (Nat.not_lt_zero j), by rw [Nat.zero_mul, List.drop_zero]; exact K4.out, Nat.le_refl _, R4.out, by rw [tabF_zero, ← HZE.out]; exact T4.out, W4.out⟩
    case round =>
      clear K4 W4 R4 T4
      obtain ⟨k, hk8, rfl, hmay, y0, y1, y2, y3, y4⟩ := hrel
      have HMAY := Lib.hid hmay
      have KR := Lib.hid y0
      have SR := Lib.hid y1
      have RR := Lib.hid y2
      have TR := Lib.hid y3
      have WR := Lib.hid y4
      clear hmay y0 y1 y2 y3 y4
      by_cases hlt : k < 8
      · have HRD := Lib.hid (show Calls Tryd.prog 32 #[.pointer (some ⟨rb, 0, none⟩)] wr fun e w' => e = .returned (.agg (slc (pslot b k)).toArray) ∧ Rdr N w' rb (b.drop ((k + 1) * 128)) 0 ∧ wr.grownBy w' (some rb) by
          have h := pread_any N wr rb _ KR.out (fun g hg => Nat.lt_of_lt_of_le (HN2.out g hg) SR.out) (by rw [List.length_drop, ← HBL.out]; omega)
          rw [List.drop_drop, show k * 128 + 128 = (k + 1) * 128 by omega] at h
          exact h)
        have HSOK := Lib.hid (pslot_ok HBL.out.symm HBY.out hlt)
        have HM0 := fun W => pmay_any (pslot b k) HSOK.out W
        have HTK := Lib.hid (tabF_ok (f := pslot b) (fun j hj => pslot_ok HBL.out.symm HBY.out hj) k)
        have HTK2 := Lib.hid (tabF_ok (f := pslot b) (fun j hj => pslot_ok HBL.out.symm HBY.out hj) (k + 1))
        have HSPL0 := tbc_set HTK.out.ok k HSOK.out (by rw [HTK.out.len]; exact hlt)
        rw [tabF_step _ k hlt] at HSPL0
        have HSLOT0 := fun W (h : Blk W (w.heap.size + 1) 30 (tbc (tabF (pslot b) (k + 1)))) => (h.slot HTK2.out hlt)
        have hat : at_ (tabF (pslot b) (k + 1)) k = pslot b k := by
          unfold at_
          rw [List.getD_eq_getElem?_getD, tabF_at _ _ _ hlt, if_pos (Nat.lt_succ_self k)]; rfl
        rw [hat] at HSLOT0
        have T656 := Lib.hid (tbc_len HTK.out)
        obtain ⟨m, hm⟩ : ∃ m, m = may (pslot b k) := ⟨_, rfl⟩
        rw [← hm] at HM0
        have S820 := slc_len HSOK.out
        have SONE0 := slc_all (pslot b k)
        obtain ⟨SC, hSC⟩ : ∃ C, C = slc (pslot b k) := ⟨_, rfl⟩
        obtain ⟨TA, hTA⟩ : ∃ C, C = tbc (tabF (pslot b) k) := ⟨_, rfl⟩
        obtain ⟨TBB, hTB⟩ : ∃ C, C = tbc (tabF (pslot b) (k + 1)) := ⟨_, rfl⟩
        rw [← hSC] at HRD HM0 HSPL0 HSLOT0 S820 SONE0
        rw [← hTA] at TR HSPL0 T656
        rw [← hTB] at HSPL0 HSLOT0
        have HM := Lib.hid HM0
        have HSPL := Lib.hid HSPL0
        have HSLOT := Lib.hid HSLOT0
        have S82 := Lib.hid S820
        have SONE := Lib.hid SONE0
        have HMM := Lib.hid hm
        have HTB := Lib.hid hTB
        have hklt : (k : Int) < 8 := by omega
        clear HM0 HSPL0 HSLOT0 S820 SONE0 hat hSC hTA hTB hm HSOK HTK HTK2
        cases m with
        | false =>
          have RES := HNO.out (fun h => by have := (isPut_same HBY.out h).2 k hlt; rw [← HMM.out] at this; cases this)
          go_wp2_with ((fail_if_success (with_reducible show bodyPost _ _ _ _ _ _)); first
            | (go_at_call 32; (with_reducible refine HRD.out.mono ?_); rintro e w5 ⟨rfl, r5, g5⟩; have K5 := Lib.hid r5; have R5 := Lib.hid (RR.out.grown g5 (fun e => by have := Option.some.inj e; have := HRB.out; omega)); have T5 := Lib.hid (TR.out.grown g5 (fun e => by have := Option.some.inj e; have := HRB.out; omega)); have W5 := Lib.hid (WR.out.grown g5 WR.out.size (fun g hg => by have := Option.some.inj hg; have := HRB.out; omega)); have S5 := Lib.hid (Nat.le_trans SR.out g5.size); clear r5 g5)
            | (refine wpList_store_blk rfl 28 (.tmp 19) (.tmp 18) rfl (w.heap.size + 1) (k * 82) SC rfl rfl 30 TA T5.out (by rw [S82.out, T656.out]; omega) (by rw [S82.out]; exact infoSl) SONE.out ?_; intro w6 b6 g6; rw [HSPL.out] at b6; have T6 := Lib.hid b6; have K6 := Lib.hid (K5.out.past g6 (by have := HRB.out; omega) (fun g hg => by have := HN1.out g hg; omega)); have R6 := Lib.hid (R5.out.grown g6 (fun e => by have := Option.some.inj e; omega)); have W6 := Lib.hid (W5.out.grown g6 W5.out.size (fun g hg => by have := Option.some.inj hg; omega)); have S6 := Lib.hid (Nat.le_trans S5.out g6.size); clear b6 g6)
            | (refine wpList_load_mid rfl 28 (.tmp 21) rfl (w.heap.size + 1) (k * 82) rfl SC _ (HSLOT.out _ T6.out) Tryd.underlying28 rfl (by rw [S82.out]; exact infoSl) ?_)
            | (go_at_call 33; (with_reducible refine (HM.out _).mono ?_); rintro e w7 ⟨rfl, b7⟩; have K7 := Lib.hid ((K6.out.below b7)); have T7 := Lib.hid (T6.out.below b7 T6.out.lt); have R7 := Lib.hid (R6.out.below b7 R6.out.lt); have W7 := Lib.hid (W6.out.on b7); have S7 := Lib.hid (Nat.le_trans S6.out b7.size); clear b7)
            | (refine wpList_buildTo rfl 30 _ rfl (some 25) rfl Z0.toArray (Eq.trans (b := Tryd.prog.built 30 []) (by kernel_rfl) hbz) ?_)
            | (refine wpList_store_blk rfl 30 (.tmp 2) (.tmp 25) rfl w.heap.size 0 Z0 rfl rfl 30 Z0 R7.out (Nat.le_of_eq (Nat.zero_add _)) (by rw [hz656]; exact infoTb) ZONE.out ?_; intro w8 b8 g8; rw [splice_all _ _ rfl] at b8; have U8 := Lib.hid b8; have W8 := Lib.hid (W7.out.grown g8 W7.out.size (fun g hg => by have := Option.some.inj hg; omega)); clear b8 g8))
          exact bodyPost_ret (results_mid2 rfl _ _ w.heap.size Z0 _ rfl U8.out.range Tryd.underlying30 rfl (by rw [hz656]; exact infoTb)) rfl ⟨Eq.trans (b := Ending.returned (.tuple #[.agg Z0.toArray, .int .i64 4])) rfl RES, W8.out⟩
        | true =>
          have MAY2 := Lib.hid (fun j (hj : j < k + 1) => show may (pslot b j) = true by
            rcases Nat.lt_succ_iff_lt_or_eq.1 hj with h | rfl
            · exact HMAY.out j h
            · exact HMM.out.symm)
          go_wp2_with ((fail_if_success (with_reducible show bodyPost _ _ _ _ _ _)); first
            | (go_at_call 32; (with_reducible refine HRD.out.mono ?_); rintro e w5 ⟨rfl, r5, g5⟩; have K5 := Lib.hid r5; have R5 := Lib.hid (RR.out.grown g5 (fun e => by have := Option.some.inj e; have := HRB.out; omega)); have T5 := Lib.hid (TR.out.grown g5 (fun e => by have := Option.some.inj e; have := HRB.out; omega)); have W5 := Lib.hid (WR.out.grown g5 WR.out.size (fun g hg => by have := Option.some.inj hg; have := HRB.out; omega)); have S5 := Lib.hid (Nat.le_trans SR.out g5.size); clear r5 g5)
            | (refine wpList_store_blk rfl 28 (.tmp 19) (.tmp 18) rfl (w.heap.size + 1) (k * 82) SC rfl rfl 30 TA T5.out (by rw [S82.out, T656.out]; omega) (by rw [S82.out]; exact infoSl) SONE.out ?_; intro w6 b6 g6; rw [HSPL.out] at b6; have T6 := Lib.hid b6; have K6 := Lib.hid (K5.out.past g6 (by have := HRB.out; omega) (fun g hg => by have := HN1.out g hg; omega)); have R6 := Lib.hid (R5.out.grown g6 (fun e => by have := Option.some.inj e; omega)); have W6 := Lib.hid (W5.out.grown g6 W5.out.size (fun g hg => by have := Option.some.inj hg; omega)); have S6 := Lib.hid (Nat.le_trans S5.out g6.size); clear b6 g6)
            | (refine wpList_load_mid rfl 28 (.tmp 21) rfl (w.heap.size + 1) (k * 82) rfl SC _ (HSLOT.out _ T6.out) Tryd.underlying28 rfl (by rw [S82.out]; exact infoSl) ?_)
            | (go_at_call 33; (with_reducible refine (HM.out _).mono ?_); rintro e w7 ⟨rfl, b7⟩; have K7 := Lib.hid ((K6.out.below b7)); have T7 := Lib.hid (T6.out.below b7 T6.out.lt); have R7 := Lib.hid (R6.out.below b7 R6.out.lt); have W7 := Lib.hid (W6.out.on b7); have S7 := Lib.hid (Nat.le_trans S6.out b7.size); clear b7))
          exact ⟨⟨k + 1, by omega, by go_num, MAY2.out, K7.out, S7.out, R7.out, by rw [← HTB.out]; exact T7.out, W7.out⟩, by simp [intOf]; omega⟩
      · obtain rfl : k = 8 := by omega
        rw [tabF_all] at TR
        have HTOK := Lib.hid (preads_ok HBL.out.symm HBY.out)
        have HPT0 := fun W => sput_any (preads b) HTOK.out W
        have T6560 := tbc_len HTOK.out
        have TALL0 := tbc_all (preads b)
        have TR2 : Blk wr (w.heap.size + 1) 30 (tbc (preads b)) := TR.out
        have HIS0 : isPut b ↔ put (preads b) = b := ⟨fun h => by rw [(isPut_same HBY.out h).1]; exact h.2.2, fun h => isPut_of HBL.out.symm HBY.out HMAY.out h⟩
        have HEQ0 : isPut b → tbc (gotT b) = tbc (preads b) := fun h => by rw [(got_is h).1, (isPut_same HBY.out h).1]
        obtain ⟨PB, hPB⟩ : ∃ l, l = put (preads b) := ⟨_, rfl⟩
        obtain ⟨TC, hTC⟩ : ∃ C, C = tbc (preads b) := ⟨_, rfl⟩
        rw [← hTC] at TR2 HPT0 T6560 TALL0 HEQ0
        rw [← hPB] at HPT0 HIS0
        have TT := Lib.hid TR2
        have HPT := Lib.hid HPT0
        have T656 := Lib.hid T6560
        have TALL := Lib.hid TALL0
        have HIS := Lib.hid HIS0
        have HEQ := Lib.hid HEQ0
        have HB := Lib.hid (fun W (hW : Below w.heap.size w W) u (hu : Rd W u PB) => pequal_any u _ PB b W hu (HV.out.below hW))
        clear HPT0 T6560 TALL0 HIS0 HEQ0 TR2 TR hPB hTC
        by_cases hpb : PB = b
        · have hg := got_is (HIS.out.2 hpb)
          have RES : (Ending.returned (.tuple #[.agg TC.toArray, .int .i64 0]) : Ending) = .returned (.tuple #[.agg RT.toArray, .int .i64 RE]) := by rw [HRT.out, HRE.out, HEQ.out (HIS.out.2 hpb), hg.2]
          rw [decide_eq_true hpb] at HB
          clear hg hpb
          go_wp2_with ((fail_if_success (with_reducible show bodyPost _ _ _ _ _ _)); first
            | (refine wpList_load_mid rfl 30 (.tmp 4) rfl (w.heap.size + 1) 0 rfl TC _ TT.out.range Tryd.underlying30 rfl (by rw [T656.out]; exact infoTb) ?_)
            | (go_at_call 9; (with_reducible refine (HPT.out wr).mono ?_); rintro e w5 ⟨u5, rfl, o5, b5⟩; obtain ⟨pa, pc, rfl, _⟩ := o5.rd.shape; have W5 := Lib.hid (WR.out.on b5); have R5 := Lib.hid (RR.out.below b5 RR.out.lt); have T5 := Lib.hid (TT.out.below b5 TT.out.lt); have HB5 := Lib.hid (HB.out w5 W5.out _ o5.rd); clear o5 b5)
            | (go_at_call 34; (with_reducible refine HB5.out.mono ?_); rintro e w6 ⟨rfl, e6⟩; subst e6)
            | (refine wpList_load_mid rfl 30 (.tmp 4) rfl (w.heap.size + 1) 0 rfl TC _ T5.out.range Tryd.underlying30 rfl (by rw [T656.out]; exact infoTb) ?_)
            | (refine wpList_store_blk rfl 30 (.tmp 2) (.tmp 33) rfl w.heap.size 0 TC rfl rfl 30 Z0 R5.out (by rw [T656.out, hz656]; exact Nat.le_refl _) (by rw [T656.out]; exact infoTb) TALL.out ?_; intro w8 b8 g8; rw [splice_all _ _ (by rw [T656.out, hz656])] at b8; have U8 := Lib.hid b8; have W8 := Lib.hid (W5.out.grown g8 W5.out.size (fun g hg => by have := Option.some.inj hg; omega)); clear b8 g8))
          exact bodyPost_ret (results_mid2 rfl _ _ w.heap.size TC _ rfl U8.out.range Tryd.underlying30 rfl (by rw [T656.out]; exact infoTb)) rfl ⟨Eq.trans (b := Ending.returned (.tuple #[.agg TC.toArray, .int .i64 0])) rfl RES, W8.out⟩
        · have RES := HNO.out (fun h => hpb (HIS.out.1 h))
          rw [decide_eq_false hpb] at HB
          go_wp2_with ((fail_if_success (with_reducible show bodyPost _ _ _ _ _ _)); first
            | (refine wpList_load_mid rfl 30 (.tmp 4) rfl (w.heap.size + 1) 0 rfl TC _ TT.out.range Tryd.underlying30 rfl (by rw [T656.out]; exact infoTb) ?_)
            | (go_at_call 9; (with_reducible refine (HPT.out wr).mono ?_); rintro e w5 ⟨u5, rfl, o5, b5⟩; obtain ⟨pa, pc, rfl, _⟩ := o5.rd.shape; have W5 := Lib.hid (WR.out.on b5); have R5 := Lib.hid (RR.out.below b5 RR.out.lt); have T5 := Lib.hid (TT.out.below b5 TT.out.lt); have HB5 := Lib.hid (HB.out w5 W5.out _ o5.rd); clear o5 b5)
            | (go_at_call 34; (with_reducible refine HB5.out.mono ?_); rintro e w6 ⟨rfl, e6⟩; subst e6)
            | (refine wpList_buildTo rfl 30 _ rfl (some 32) rfl Z0.toArray (Eq.trans (b := Tryd.prog.built 30 []) (by kernel_rfl) hbz) ?_)
            | (refine wpList_store_blk rfl 30 (.tmp 2) (.tmp 32) rfl w.heap.size 0 Z0 rfl rfl 30 Z0 R5.out (Nat.le_of_eq (Nat.zero_add _)) (by rw [hz656]; exact infoTb) ZONE.out ?_; intro w8 b8 g8; rw [splice_all _ _ rfl] at b8; have U8 := Lib.hid b8; have W8 := Lib.hid (W5.out.grown g8 W5.out.size (fun g hg => by have := Option.some.inj hg; omega)); clear b8 g8))
          exact bodyPost_ret (results_mid2 rfl _ _ w.heap.size Z0 _ rfl U8.out.range Tryd.underlying30 rfl (by rw [hz656]; exact infoTb)) rfl ⟨Eq.trans (b := Ending.returned (.tuple #[.agg Z0.toArray, .int .i64 4])) rfl RES, W8.out⟩
  · have hlz : ¬ (bl : Int) = 1024 := by omega
    have RES := HNO.out (fun h => hlen (HBL.out.trans h.1))
    go_enter Tryd.func16, Tryd.ntmps16
    go_wp2_with (first
      | (refine wpList_buildTo rfl 30 _ rfl (some 10) rfl Z0.toArray (Eq.trans (b := Tryd.prog.built 30 []) (by kernel_rfl) hbz) ?_)
      | (refine wpList_store_blk rfl 30 (.tmp 2) (.tmp 10) rfl w.heap.size 0 Z0 rfl rfl 30 Z0 R2.out (Nat.le_of_eq (Nat.zero_add _)) (by rw [hz656]; exact infoTb) ZONE.out ?_; intro w8 b8 g8; rw [splice_all _ _ rfl] at b8; have U8 := Lib.hid b8; have W8 := Lib.hid (W2.out.grown g8 W2.out.size (fun g hg => by have := Option.some.inj hg; omega)); clear b8 g8))
    exact bodyPost_ret (results_mid2 rfl _ _ w.heap.size Z0 _ rfl U8.out.range Tryd.underlying30 rfl (by rw [hz656]; exact infoTb)) rfl ⟨Eq.trans (b := Ending.returned (.tuple #[.agg Z0.toArray, .int .i64 4])) rfl RES, W8.out⟩
end Go.Proofs.YtbepchikngoknaaDoor
