/- Texts of 7 subjects in one file: DevGA, DevPC, DevGB, DevGC, Rng, CopyZ, DevGD. Own work. -/
import Derived.Test.YthmkpekeghcifaaGreatDoorMg7
import Derived.Test.YthmkpekeghcifaaGreatDoorMg2
import Derived.RegionCalls
import Derived.Lib.SliceRun
import Derived.BigQuiet
import Derived.BigRegion
import Derived.Deep.DeepCutAuto
import Derived.Test.YthmkpekeghcifaaGreatDoorMg1
import Derived.OrdersIn
import Derived.RangeFuncNested
import Derived.Test.YthmkpekeghcifaaGreatDoorMg0
import Derived.RangeFuncBound
import Derived.RangeFuncLeaves
import Derived.Shelf.Abstract
import Derived.Shelf.RegionOpen
import Derived.OwnWalkIn
import Derived.TacticsInMore
import Derived.LoopNIn
import Derived.LoopIn
section
/- Texts of one subject in one file: CutEx, DevPA, DevPB. Own work. -/
/- Bytes cut out of a slice of one's own block, and copied into one, as operations of a region that draws its order. Own work. -/
namespace Go.Proofs.YthmkpekeghcifaaGreatDoor
open Go.RowKit
theorem ex_cut_l {o : Oper} {a : Act} {w : World} {x y : Operand} {b n cap k : Nat} (ho : o.op = .slice 46 x (some y) none none) (hx : a.eval x = .slice (some ⟨b, 0, none⟩) n cap) (hy : a.eval y = .int .i64 (k : Int)) (hk : k ≤ n) (hc : k < cap) :
    (execOp a.eval o).run Tryz.prog w = .ok (.value (.slice (some ⟨b, k, none⟩) (n - k) (cap - k))) w := by
  have q : (k : Int) ≤ (n : Int) := by omega
  have q2 : cap ≠ k := by omega
  unfold execOp
  rw [ho]
  simp only [Option.map_some, Option.map_none, hx, hy]
  go_simp
end Go.Proofs.YthmkpekeghcifaaGreatDoor
/- The program's device, its small functions: bytes laid, reached for, cloned; what is up; what stays: contracts. Own work. -/
namespace Go.Proofs.YthmkpekeghcifaaGreatDoor
open Go.ChangeShapes Go.WideShapes Go.ChangeAt Go.RowKit
open DM
theorem preach_any (base : Nat) (v : Value) (l : List Nat) (n : Nat) (w : World) (ho : Own w base v l) (hb : base ≤ w.heap.size) (hn : n ≤ 33554432) (hl : l.length ≤ 33554432) : Calls Tryz.prog 96 #[v, .int .i64 (n : Int)] w fun e w' =>
    ∃ v', e = .returned v' ∧ Own w' base v' (padTo l n) ∧ w.grownBy w' v.ownBlock ∧ (v'.ownBlock = v.ownBlock ∨ v'.ownBlock = some w.heap.size) := by
  obtain ⟨ao, cap, rfl, hcap⟩ := ho.rd.shape
  obtain ⟨c, hc⟩ : ∃ c, c = l.length := ⟨_, rfl⟩
  have HO := Lib.hid ho
  have HB := Lib.hid hb
  have HPL := Lib.hid (show padTo l n = l ++ List.replicate (n - c) 0 by rw [hc]; rfl)
  have hc2 : c ≤ 33554432 := by omega
  have HL := Lib.hid (show l.length + (n - c) ≤ 140737488355328 by omega)
  have HW := Lib.hid (show (if (n : Int) - (c : Int) < 0 then (0 : Int) else (n : Int) - (c : Int)) = ((n - c : Nat) : Int) by split <;> omega)
  rw [← hc] at hcap ho ⊢
  have HO2 := Lib.hid ho
  clear ho hc hl hcap hb HO
  go_enter Tryz.func96, Tryz.ntmps96
  go_wp2_with (at_builtin; refine wpList_app0 rfl (.tmp 5) (.tmp 10) rfl base (.slice ao c cap) l (n - c) rfl (congrArg (Value.int .i64) HW.out) HO2.out HL.out HB.out ?_; intro v1 w1 o1 g1 k1; rw [← HPL.out] at o1; have O1 := Lib.hid o1; have G1 := Lib.hid g1; have K1 := Lib.hid k1; clear o1 g1 k1)
  all_goals (go_ret; exact ⟨_, rfl, O1.out, G1.out, K1.out⟩)
/-- Bytes laid into a file, as the program does it. -/
def lay (s : List Nat) (a : Nat) (b : List Nat) : List Nat := (padTo s (a + b.length)).take a ++ b ++ (padTo s (a + b.length)).drop (a + b.length)
theorem lay_laid (s : List Nat) (a : Nat) (b : List Nat) (hb : b ≠ []) : lay s a b = laid s a b := by
  unfold lay laid
  rw [if_neg hb]
  unfold padTo
  have hbl : 0 < b.length := List.length_pos_iff.2 hb
  congr 1
  · congr 1
    apply List.ext_getElem?
    intro k
    simp only [List.getElem?_take]
    split
    · simp only [List.getElem?_append, List.getElem?_replicate]
      split
      · rfl
      · rw [if_pos (by omega), if_pos (by omega)]
    · rfl
  · rw [List.drop_append]
    have h1 : (List.replicate (a + b.length - s.length) 0).drop (a + b.length - s.length) = ([] : List Nat) := List.drop_eq_nil_of_le (by rw [List.length_replicate]; exact Nat.le_refl _)
    rw [h1, List.append_nil]
theorem lay_none (s : List Nat) (a : Nat) (ha : a ≤ s.length) : lay s a [] = s := by
  unfold lay padTo
  rw [show a + ([] : List Nat).length - s.length = 0 by simp; omega]
  simp
theorem lay_eq (s : List Nat) (a : Nat) (b : List Nat) (ha : a ≤ s.length) : lay s a b = laid s a b := by
  by_cases hb : b = []
  · subst hb; rw [lay_none s a ha, laid_nil]
  · exact lay_laid s a b hb
theorem only_new {a b c : World} {row : Option Nat} (h : a.grownBy b row) (k : b.grownBy c (some a.heap.size)) : a.grownBy c row :=
  ⟨k.os.trans h.os, k.tape.trans h.tape, k.output.trans h.output, Nat.le_trans h.size k.size, fun i hi hne => (k.block i (Nat.lt_of_lt_of_le hi h.size) (fun e => by have := Option.some.inj e; omega)).trans (h.block i hi hne)⟩
theorem own_piece {w : World} {base fl cap : Nat} {ao : Option Addr} {F : List Nat} (h : Own w base (.slice ao fl cap) F) (n k : Nat) (hn : n + k ≤ cap) : ∀ g, (Value.slice ao fl cap).ownBlock = some g → 0 < k → (if cap = n then ao else ao.map (·.add n)) = some ⟨g, n, none⟩ := by
  intro g hg hk
  rw [if_neg (by omega)]
  rcases h.1.2 with ⟨e, _⟩ | ⟨g', cap', cur, e, _⟩
  · rw [e] at hg; cases hg
  · injection e with e1 _ _
    subst e1
    obtain rfl : g' = g := Option.some.inj hg
    show some ((⟨g', 0, none⟩ : Addr).add n) = _
    rw [Addr.add_lit, Nat.zero_add]
theorem play_any (base : Nat) (v : Value) (l : List Nat) (n : Nat) (y : Value) (m : List Nat) (w : World) (ho : Own w base v l) (hy : Rd w y m) (hne : 0 < m.length → ∀ g, y.ownBlock = some g → v.ownBlock ≠ some g) (hb : base ≤ w.heap.size) (hn : n ≤ 16777216) (hm : m.length ≤ 16777216) (hl : l.length ≤ 33554432) : Calls Tryz.prog 53 #[v, .int .i64 (n : Int), y] w fun e w' =>
    ∃ v', e = .returned v' ∧ Own w' base v' (lay l n m) ∧ w.grownBy w' v.ownBlock ∧ (v'.ownBlock = v.ownBlock ∨ v'.ownBlock = some w.heap.size) := by
  obtain ⟨ao, cap, rfl, hcap⟩ := hy.shape
  obtain ⟨c, hc⟩ : ∃ c, c = m.length := ⟨_, rfl⟩
  have hr := preach_any base v l (n + c) w ho hb (by omega) hl
  rw [show ((n + c : Nat) : Int) = (n : Int) + (c : Int) from rfl] at hr
  obtain ⟨F, hF⟩ : ∃ F, F = padTo l (n + c) := ⟨_, rfl⟩
  rw [← hF] at hr
  have HFL := Lib.hid (show n + c ≤ F.length by rw [hF, padTo_len]; omega)
  have HFM := Lib.hid (show F.length ≤ 33554432 by rw [hF, padTo_len]; omega)
  have HLAY := Lib.hid (show lay l n m = F.take n ++ m ++ F.drop (n + c) by rw [hF, hc]; rfl)
  have HC := Lib.hid hc
  rw [← hc] at hcap hy hm hne ⊢
  have HHY := Lib.hid hy
  have HNE := Lib.hid hne
  obtain ⟨vo, vcap, rfl, hvc⟩ := ho.rd.shape
  have HR := Lib.hid hr
  have HMT := Lib.hid (show m.take c = m by rw [hc]; exact List.take_length)
  clear hy hne ho hF hl hr hb hc hvc
  go_enter Tryz.func53, Tryz.ntmps53
  go_upto_region 2 with (go_at_call 96; (with_reducible refine HR.out.mono ?_); rintro e w1 ⟨v1, rfl, o1, g1, k1⟩; obtain ⟨ao1, cap1, rfl, hc1⟩ := o1.rd.shape; have O1 := Lib.hid o1; have G1 := Lib.hid g1; have K1 := Lib.hid k1; clear o1 g1 k1)
  have HHY1 := Lib.hid (HHY.out.turned G1.out (by rw [← HC.out]; exact fun h g hg => HNE.out h g hg))
  have hfl := HFL.out
  have hfm := HFM.out
  have HPC := Lib.hid (own_piece O1.out n c (by omega))
  have HKC := Lib.hid (show c = min m.length (F.length - n) by rw [← HC.out]; omega)
  obtain ⟨f, hf⟩ : ∃ f, f = F.length := ⟨_, rfl⟩
  have HFF := Lib.hid hf
  rw [← hf] at hc1 hfl hfm O1 HKC HPC ⊢
  rw [← hf] at K1
  clear hf
  by_cases hcn : cap1 = n
  · subst hcn
    go_wp2_with ((with_reducible show wpList _ _ _ _ _ _); refine wpList_copy_own rfl (.tmp 15) (.tmp 16) 46 46 rfl Tryz.underlying46 base (.slice ao1 f cap1) F O1.out cap1 0 0 _ rfl _ rfl m HHY1.out (by have := HFF.out; omega) c (by have := HKC.out; omega) (fun g hg hk => absurd hk (by omega)) ?_; intro w2 o2 g2; rw [HMT.out, ← HLAY.out] at o2; have O2 := Lib.hid o2; have G2 := Lib.hid g2; clear o2 g2)
    go_ret
    refine ⟨_, rfl, O2.out, ?_, K1.out⟩
    have g2 := G2.out
    rcases K1.out with q | q
    · rw [q] at g2; exact only_trans G1.out g2
    · rw [q] at g2; exact only_new G1.out g2
  · have HPD := Lib.hid (show ∀ g, (Value.slice ao1 f cap1).ownBlock = some g → 0 < c → ao1.map (fun x => x.add n) = some ⟨g, n, none⟩ from fun g hg hk => by have := HPC.out g hg hk; rw [if_neg hcn] at this; exact this)
    go_wp2_with ((with_reducible show wpList _ _ _ _ _ _); refine wpList_copy_own rfl (.tmp 15) (.tmp 16) 46 46 rfl Tryz.underlying46 base (.slice ao1 f cap1) F O1.out n (f - n) (cap1 - n) _ rfl _ rfl m HHY1.out (by rw [HFF.out]) c HKC.out HPD.out ?_; intro w2 o2 g2; rw [HMT.out, ← HLAY.out] at o2; have O2 := Lib.hid o2; have G2 := Lib.hid g2; clear o2 g2)
    go_ret
    refine ⟨_, rfl, O2.out, ?_, K1.out⟩
    have g2 := G2.out
    rcases K1.out with q | q
    · rw [q] at g2; exact only_trans G1.out g2
    · rw [q] at g2; exact only_new G1.out g2
/-- slices.Clone of bytes. -/
theorem pclone_any (v : Value) (l : List Nat) (w : World) (h : Rd w v l) : Calls Tryz.prog 37 #[v] w fun e w' =>
    ∃ y, e = .returned y ∧ Own w' w.heap.size y l ∧ Below w.heap.size w w' ∧ ∀ g, y.ownBlock = some g → w.heap.size ≤ g := by
  rcases h.form with ⟨rfl, rfl⟩ | ⟨ad, cap, rfl, hc, _⟩
  · have hq := Lib.run_eql_slice_nil (P := Tryz.prog) w 46 5 none 0 0 0 0 Tryz.underlying46
    go_enter Tryz.func37, Tryz.ntmps37
    go_wp2_with fail
    go_ret
    exact ⟨_, rfl, own_nil w, Below.refl _ _, fun g hg => by cases hg⟩
  · have HH := Lib.hid h
    have hf := h.fits
    have HF := Lib.hid (show ([] : List Nat).length + l.length ≤ 140737488355328 by simp; exact hf)
    have hq := Lib.run_eql_slice_nil (P := Tryz.prog) w 46 5 (some ad) l.length cap 0 0 Tryz.underlying46
    clear h hf
    go_enter Tryz.func37, Tryz.ntmps37
    go_wp2_with (at_builtin; refine wpList_app rfl (.tmp 5) (.tmp 6) rfl w.heap.size (.slice (some ⟨w.heap.size, 0, none⟩) 0 0) _ [] l rfl rfl (own_empty w rfl (Nat.le_refl _)) (HH.out.alloc _) HF.out (by simp) ?_; intro v1 w1 o1 g1 k1; rw [List.nil_append] at o1; have O1 := Lib.hid o1; have G1 := Lib.hid (((Below.refl w.heap.size w).alloc (Nat.le_refl _) (.cells #[] 5)).grown g1 (by simp) (fun k hk => ((own_empty w rfl (Nat.le_refl _)).from k hk).1)); clear o1 g1 k1)
    go_ret
    exact ⟨_, rfl, O1.out, G1.out, fun g hg => (O1.out.from g hg).1⟩
end Go.Proofs.YthmkpekeghcifaaGreatDoor
/- The program's device in memory; what it tells of itself: contracts. Own work. -/
namespace Go.Proofs.YthmkpekeghcifaaGreatDoor
open Go.ChangeShapes Go.WideShapes Go.ChangeAt Go.RowKit
open DM
/-- The cells of a loose write. -/
def lwc (x : LW) : List Value := .int .i64 ((x.at_ / 512 : Nat) : Int) :: .int .i64 (x.bytes.length : Int) :: row8 (padTo x.bytes 512)
def lwcs (l : List LW) : List Value := (l.map lwc).flatten
/-- What a loose write is. -/
structure Wr (x : LW) : Prop where
  at_ : x.at_ % 512 = 0
  pos : 0 < x.bytes.length
  len : x.bytes.length ≤ 512
  size : x.size = x.at_ + x.bytes.length
theorem lwc_len {x : LW} (h : x.bytes.length ≤ 512) : (lwc x).length = 514 := by
  unfold lwc
  rw [List.length_cons, List.length_cons, row8_len, padTo_len]; omega
theorem lwcs_app (l m : List LW) : lwcs (l ++ m) = lwcs l ++ lwcs m := by unfold lwcs; simp
theorem lwc_one (x : LW) : ∀ u ∈ lwc x, u.oneCell' = true := by
  intro u hu
  unfold lwc at hu
  rcases List.mem_cons.1 hu with rfl | hu
  · rfl
  rcases List.mem_cons.1 hu with rfl | hu
  · rfl
  exact row8_one' _ u hu
/-- The cells of a device. -/
def dvc (S : DS) (sv fv lv : Value) (t : Bool) : List Value := [.int .i64 (S.most : Int), sv, fv, lv, .int .i64 (S.steps : Int), .bool S.down, .bool t, .int .i64 (S.after : Int), .bool S.done]
/-- In block d lies a device that is as S says. -/
structure Mem (w : World) (d : Nat) (S : DS) (sv fv lv : Value) (t : Bool) : Prop where
  blk : Blk w d 97 (dvc S sv fv lv t)
  seen : Own w 0 sv S.seen
  safe : Own w 0 fv S.safe
  loose : w.ownsRow 0 163 514 lv S.loose.length (lwcs S.loose)
  tl : S.down = false → t = S.told
  ns : sv.ownBlock ≠ some d
  nf : fv.ownBlock ≠ some d
  nl : lv.ownBlock ≠ some d
  sf : ∀ g, sv.ownBlock = some g → fv.ownBlock ≠ some g
  sl : ∀ g, sv.ownBlock = some g → lv.ownBlock ≠ some g
  fl : ∀ g, fv.ownBlock = some g → lv.ownBlock ≠ some g
/-- The blocks that it writes. -/
def Blks (d : Nat) (sv fv lv : Value) (k : Nat) : Prop := k = d ∨ sv.ownBlock = some k ∨ fv.ownBlock = some k ∨ lv.ownBlock = some k
theorem Mem.lt {w : World} {d : Nat} {S : DS} {sv fv lv : Value} {t : Bool} (h : Mem w d S sv fv lv t) : ∀ k, Blks d sv fv lv k → k < w.heap.size := by
  rintro k (rfl | q | q | q)
  · exact h.blk.lt
  · exact (h.seen.from k q).2
  · exact (h.safe.from k q).2
  · exact (h.loose.lt k q).2
theorem Mem.keep {w w' : World} {d : Nat} {S : DS} {sv fv lv : Value} {t : Bool} (h : Mem w d S sv fv lv t) (hg : ∃ B A, Kept B A w w' ∧ ∀ k, Blks d sv fv lv k → k < B ∨ A k) : Mem w' d S sv fv lv t := by
  obtain ⟨B, A, hk, hA⟩ := hg
  refine ⟨h.blk.kept hk (hA d (.inl rfl)), own_kept h.seen hk (fun g q => hA g (.inr (.inl q))), own_kept h.safe hk (fun g q => hA g (.inr (.inr (.inl q)))), ?_, h.tl, h.ns, h.nf, h.nl, h.sf, h.sl, h.fl⟩
  refine ⟨h.loose.1, ?_⟩
  rcases h.loose.2 with q | ⟨g, cap, cur, e, hB, hh, rest⟩
  · exact .inl q
  · refine .inr ⟨g, cap, cur, e, hB, ?_, rest⟩
    have ho : lv.ownBlock = some g := by rw [e]; rfl
    rw [hk.block g (h.loose.lt g ho).2 (hA g (.inr (.inr (.inr ho))))]; exact hh
theorem Mem.below {w w' : World} {d : Nat} {S : DS} {sv fv lv : Value} {t : Bool} (h : Mem w d S sv fv lv t) (hb : Below w.heap.size w w') : Mem w' d S sv fv lv t :=
  h.keep ⟨w.heap.size, fun _ => False, Kept.of_below hb, fun k hk => .inl (h.lt k hk)⟩
/-- From w to w' nothing old has turned but in the blocks A; the blocks A' are of them, or new. -/
structure Move (w : World) (A : Nat → Prop) (w' : World) (A' : Nat → Prop) : Prop where
  turn : Turn A w w'
  into : ∀ k, A' k → A k ∨ w.heap.size ≤ k
theorem Move.refl (w : World) (A : Nat → Prop) : Move w A w A := ⟨Turn.refl _ _, fun _ h => .inl h⟩
theorem Move.trans {a b c : World} {A B C : Nat → Prop} (h : Move a A b B) (k : Move b B c C) : Move a A c C :=
  ⟨h.turn.trans k.turn h.into, fun i hi => (k.into i hi).elim (h.into i) (fun q => .inr (Nat.le_trans h.turn.size q))⟩
theorem Move.below {a b : World} {A : Nat → Prop} (h : Below a.heap.size a b) : Move a A b A := ⟨Turn.of_below h, fun _ h => .inl h⟩
/-- A field of the device has turned. -/
theorem Mem.field {w : World} {d : Nat} {S S' : DS} {sv fv lv : Value} {t t' : Bool} (h : Mem w d S sv fv lv t) (j : Nat) (u : Value) (he : (dvc S sv fv lv t).set j u = dvc S' sv fv lv t') (h1 : S'.seen = S.seen) (h2 : S'.safe = S.safe) (h3 : S'.loose = S.loose) (ht : S'.down = false → t' = S'.told) : Mem (w.setCell ⟨d, j, none⟩ u) d S' sv fv lv t' ∧ Move w (Blks d sv fv lv) (w.setCell ⟨d, j, none⟩ u) (Blks d sv fv lv) := by
  have hg : w.grownBy (w.setCell ⟨d, j, none⟩ u) (some d) := grownBy_cell w d j u
  have hne : ∀ {v : Value}, v.ownBlock ≠ some d → v.ownBlock = none ∨ v.ownBlock ≠ some d := fun h => .inr h
  refine ⟨⟨he ▸ h.blk.set j u, by rw [h1]; exact h.seen.keep hg (hne h.ns), by rw [h2]; exact h.safe.keep hg (hne h.nf), by rw [h3]; exact World.ownsRow.kept h.loose hg (hne h.nl), ht, h.ns, h.nf, h.nl, h.sf, h.sl, h.fl⟩, Turn.of_grown hg (.inl rfl), fun _ h => .inl h⟩
section
variable (w : World) (d : Nat) (S : DS) (sv fv lv : Value) (t : Bool) (h : Mem w d S sv fv lv t)
include h
theorem Mem.c0 : w.cell? ⟨d, 0, none⟩ = some (.int .i64 (S.most : Int)) := h.blk.cell 0 _ rfl
theorem Mem.c1 : w.cell? ⟨d, 1, none⟩ = some sv := h.blk.cell 1 _ rfl
theorem Mem.c3 : w.cell? ⟨d, 3, none⟩ = some lv := h.blk.cell 3 _ rfl
theorem Mem.c4 : w.cell? ⟨d, 4, none⟩ = some (.int .i64 (S.steps : Int)) := h.blk.cell 4 _ rfl
theorem Mem.c5 : w.cell? ⟨d, 5, none⟩ = some (.bool S.down) := h.blk.cell 5 _ rfl
theorem Mem.c6 : w.cell? ⟨d, 6, none⟩ = some (.bool t) := h.blk.cell 6 _ rfl
theorem Mem.c7 : w.cell? ⟨d, 7, none⟩ = some (.int .i64 (S.after : Int)) := h.blk.cell 7 _ rfl
theorem Mem.c8 : w.cell? ⟨d, 8, none⟩ = some (.bool S.done) := h.blk.cell 8 _ rfl
theorem pdready_any : Calls Tryz.prog 67 #[.pointer (some ⟨d, 0, none⟩)] w fun e w' => e = .returned (.int .i64 (if S.down then 20 else 0)) ∧ w' = w := by
  have c5 := h.c5
  clear h
  cases hd : S.down with
  | true =>
    rw [hd] at c5
    go_enter Tryz.func67, Tryz.ntmps67
    go_wp2_with fail
    go_ret
    exact ⟨rfl, rfl⟩
  | false =>
    rw [hd] at c5
    go_enter Tryz.func67, Tryz.ntmps67
    go_wp2_with fail
    go_ret
    exact ⟨rfl, rfl⟩
end
end Go.Proofs.YthmkpekeghcifaaGreatDoor
end

section
/- A step of the program's device: contracts. Written by gen_devstep.py. Own work. -/
namespace Go.Proofs.YthmkpekeghcifaaGreatDoor
open Go.ChangeShapes Go.WideShapes Go.ChangeAt Go.RowKit
open DM
/-- The device behind the count of a step. -/
def counted (S : DS) (dn : Bool) (af : Nat) : DS := { S with steps := S.steps + 1, down := dn, after := af }
/-- From w on the device has come to be as S says. -/
def Gone (w : World) (d : Nat) (sv fv lv : Value) (S : DS) (w' : World) : Prop := ∃ sv' fv' lv' t', Mem w' d S sv' fv' lv' t' ∧ Move w (Blks d sv fv lv) w' (Blks d sv' fv' lv')
theorem Gone.after {w w1 w2 : World} {d : Nat} {sv fv lv : Value} {S : DS} (h : Move w (Blks d sv fv lv) w1 (Blks d sv fv lv)) (k : Gone w1 d sv fv lv S w2) : Gone w d sv fv lv S w2 := by
  obtain ⟨sv', fv', lv', t', hm, hv⟩ := k
  exact ⟨sv', fv', lv', t', hm, h.trans hv⟩
set_option maxHeartbeats 1000000 in
theorem pstep_write_a (w : World) (d : Nat) (S S2 : DS) (sv fv lv : Value) (p1 p2 p3 : Nat) (h : Mem w d S sv fv lv false) (hd : S.down = false) (hs : S.steps < 9223372036854775807) (hS : S.after = 0) (h2 : S2.down = false)
    (H : ∀ w1, Mem w1 d (counted S false 0) sv fv lv false → Move w (fun k => k = d) w1 (fun k => k = d) → Calls Tryz.prog 128 #[.pointer (some ⟨p1, 0, none⟩), .pointer (some ⟨p2, 0, none⟩), .pointer (some ⟨p3, 0, none⟩)] w1 fun e w' => e = .returned (.tuple #[]) ∧ Gone w1 d sv fv lv S2 w') :
    Calls Tryz.prog 68 #[.pointer (some ⟨d, 0, none⟩), .func (.func 128) #[] #[.pointer (some ⟨p1, 0, none⟩), .pointer (some ⟨p2, 0, none⟩), .pointer (some ⟨p3, 0, none⟩)]] w fun e w' => e = .returned (.int .i64 0) ∧ Gone w d sv fv lv S2 w' := by
  have htl := h.tl hd
  have c4 := h.c4
  have c5 := h.c5
  have c6 := h.c6
  have c7 := h.c7
  have c8 := h.c8
  have f4 := h.blk.free 4
  have f5 := h.blk.free 5
  have f7 := h.blk.free 7
  rw [hd] at c5
  rw [hS] at c7
  obtain ⟨s, hsv⟩ : ∃ s, s = S.steps := ⟨_, rfl⟩
  rw [← hsv] at c4 hs
  have hw : IntKind.i64.wrap ((s : Int) + 1) = (s : Int) + 1 := by rw [IntKind.wrap_i64]; omega
  have m1 := h.field 4 (.int .i64 ((s : Int) + 1)) (S' := { S with steps := S.steps + 1 }) (t' := false) (by rw [hsv]; rfl) rfl rfl rfl (fun _ => htl)
  have m2 := m1.1.field 5 (.bool false) (S' := { S with steps := S.steps + 1, down := false }) (t' := false) rfl rfl rfl rfl (fun _ => htl)
  have HM := Lib.hid (show Mem _ d (counted S false 0) sv fv lv false from by have := m2.1; unfold counted; rw [← hS]; exact this)
  have HV := Lib.hid (m1.2.trans m2.2)
  have HT := Lib.hid (show Move w (fun k => k = d) ((w.setCell ⟨d, 4, none⟩ (.int .i64 ((s : Int) + 1))).setCell ⟨d, 5, none⟩ (.bool false)) (fun k => k = d) from ⟨Turn.of_grown (only_trans (grownBy_cell _ _ _ _) (grownBy_cell _ _ _ _)) rfl, fun _ h => .inl h⟩)
  have HC := Lib.hid (H _ HM.out HT.out)
  have H2 := Lib.hid h2
  clear H m1 m2 h hsv htl h2 hS
  go_enter Tryz.func68, Tryz.ntmps68
  go_wp2_with (first
    | (go_at_call 128; (with_reducible refine HC.out.mono ?_); rintro e w1 ⟨rfl, g1⟩; have G1 := Lib.hid g1; have HR := Lib.hid (show Calls Tryz.prog 67 #[.pointer (some ⟨d, 0, none⟩)] w1 fun e w' => e = .returned (.int .i64 0) ∧ w' = w1 from by obtain ⟨_, _, _, _, hm, _⟩ := g1; have hr := pdready_any _ _ _ _ _ _ _ hm; rw [H2.out] at hr; exact hr); clear g1)
    | (go_at_call 67; (with_reducible refine HR.out.mono ?_); rintro e w2 ⟨rfl, hq⟩; rw [hq]; clear hq w2))
  go_ret
  exact ⟨rfl, Gone.after HV.out G1.out⟩
set_option maxHeartbeats 1000000 in
theorem pstep_write_b (w : World) (d : Nat) (S S2 : DS) (sv fv lv : Value) (p1 p2 p3 : Nat) (h : Mem w d S sv fv lv true) (hd : S.down = false) (hs : S.steps < 9223372036854775807) (af : Nat) (hS : S.after = af + 1) (haf : af < 9223372036854775807) (h2 : S2.down = false)
    (H : ∀ w1, Mem w1 d (counted S false af) sv fv lv true → Move w (fun k => k = d) w1 (fun k => k = d) → Calls Tryz.prog 128 #[.pointer (some ⟨p1, 0, none⟩), .pointer (some ⟨p2, 0, none⟩), .pointer (some ⟨p3, 0, none⟩)] w1 fun e w' => e = .returned (.tuple #[]) ∧ Gone w1 d sv fv lv S2 w') :
    Calls Tryz.prog 68 #[.pointer (some ⟨d, 0, none⟩), .func (.func 128) #[] #[.pointer (some ⟨p1, 0, none⟩), .pointer (some ⟨p2, 0, none⟩), .pointer (some ⟨p3, 0, none⟩)]] w fun e w' => e = .returned (.int .i64 0) ∧ Gone w d sv fv lv S2 w' := by
  have htl := h.tl hd
  have c4 := h.c4
  have c5 := h.c5
  have c6 := h.c6
  have c7 := h.c7
  have c8 := h.c8
  have f4 := h.blk.free 4
  have f5 := h.blk.free 5
  have f7 := h.blk.free 7
  rw [hd] at c5
  rw [hS] at c7
  obtain ⟨s, hsv⟩ : ∃ s, s = S.steps := ⟨_, rfl⟩
  rw [← hsv] at c4 hs
  have hw : IntKind.i64.wrap ((s : Int) + 1) = (s : Int) + 1 := by rw [IntKind.wrap_i64]; omega
  have m1 := h.field 4 (.int .i64 ((s : Int) + 1)) (S' := { S with steps := S.steps + 1 }) (t' := true) (by rw [hsv]; rfl) rfl rfl rfl (fun _ => htl)
  obtain ⟨A, hA⟩ : ∃ A, A = af + 1 := ⟨_, rfl⟩
  have hA0 : ((A : Int) == 0) = false := by rw [beq_eq_false_iff_ne]; omega
  have m2 := m1.1.field 5 (.bool ((A : Int) == 0)) (S' := { S with steps := S.steps + 1, down := false }) (t' := true) (by rw [hA0]; rfl) rfl rfl rfl (fun _ => htl)
  rw [← hA] at c7
  have hA2 : (A : Int) - 1 = (af : Int) := by omega
  have m3 := m2.1.field 7 (.int .i64 ((A : Int) - 1)) (S' := counted S false af) (t' := true) (by rw [hA2]; rfl) rfl rfl rfl (fun _ => htl)
  have hw2 : IntKind.i64.wrap ((A : Int) - 1) = (A : Int) - 1 := by rw [IntKind.wrap_i64]; omega
  have hw4 : (0 : Int) < (A : Int) := by omega
  have hw5 : ¬ (A : Int) = 0 := by omega
  clear hA2 hA0
  have HM := Lib.hid m3.1
  have HV := Lib.hid (m1.2.trans (m2.2.trans m3.2))
  have HT := Lib.hid (show Move w (fun k => k = d) (((w.setCell ⟨d, 4, none⟩ (.int .i64 ((s : Int) + 1))).setCell ⟨d, 5, none⟩ (.bool ((A : Int) == 0))).setCell ⟨d, 7, none⟩ (.int .i64 ((A : Int) - 1))) (fun k => k = d) from ⟨Turn.of_grown (only_trans (only_trans (grownBy_cell _ _ _ _) (grownBy_cell _ _ _ _)) (grownBy_cell _ _ _ _)) rfl, fun _ h => .inl h⟩)
  have HC := Lib.hid (H _ HM.out HT.out)
  have H2 := Lib.hid h2
  clear H m1 m2 m3 hA h hsv htl h2 hS
  go_enter Tryz.func68, Tryz.ntmps68
  go_wp2_with (first
    | (go_at_call 128; (with_reducible refine HC.out.mono ?_); rintro e w1 ⟨rfl, g1⟩; have G1 := Lib.hid g1; have HR := Lib.hid (show Calls Tryz.prog 67 #[.pointer (some ⟨d, 0, none⟩)] w1 fun e w' => e = .returned (.int .i64 0) ∧ w' = w1 from by obtain ⟨_, _, _, _, hm, _⟩ := g1; have hr := pdready_any _ _ _ _ _ _ _ hm; rw [H2.out] at hr; exact hr); clear g1)
    | (go_at_call 67; (with_reducible refine HR.out.mono ?_); rintro e w2 ⟨rfl, hq⟩; rw [hq]; clear hq w2))
  go_ret
  exact ⟨rfl, Gone.after HV.out G1.out⟩
set_option maxHeartbeats 1000000 in
theorem pstep_write_c (w : World) (d : Nat) (S S2 : DS) (sv fv lv : Value) (p1 p2 p3 : Nat) (h : Mem w d S sv fv lv true) (hd : S.down = false) (hs : S.steps < 9223372036854775807) (hS : S.after = 0) (hD : S.done = true) (h2 : S2.down = true)
    (H : ∀ w1, Mem w1 d (counted S true 0) sv fv lv true → Move w (fun k => k = d) w1 (fun k => k = d) → Calls Tryz.prog 128 #[.pointer (some ⟨p1, 0, none⟩), .pointer (some ⟨p2, 0, none⟩), .pointer (some ⟨p3, 0, none⟩)] w1 fun e w' => e = .returned (.tuple #[]) ∧ Gone w1 d sv fv lv S2 w') :
    Calls Tryz.prog 68 #[.pointer (some ⟨d, 0, none⟩), .func (.func 128) #[] #[.pointer (some ⟨p1, 0, none⟩), .pointer (some ⟨p2, 0, none⟩), .pointer (some ⟨p3, 0, none⟩)]] w fun e w' => e = .returned (.int .i64 20) ∧ Gone w d sv fv lv S2 w' := by
  have htl := h.tl hd
  have c4 := h.c4
  have c5 := h.c5
  have c6 := h.c6
  have c7 := h.c7
  have c8 := h.c8
  have f4 := h.blk.free 4
  have f5 := h.blk.free 5
  have f7 := h.blk.free 7
  rw [hd] at c5
  rw [hS] at c7
  rw [hD] at c8
  obtain ⟨s, hsv⟩ : ∃ s, s = S.steps := ⟨_, rfl⟩
  rw [← hsv] at c4 hs
  have hw : IntKind.i64.wrap ((s : Int) + 1) = (s : Int) + 1 := by rw [IntKind.wrap_i64]; omega
  have m1 := h.field 4 (.int .i64 ((s : Int) + 1)) (S' := { S with steps := S.steps + 1 }) (t' := true) (by rw [hsv]; rfl) rfl rfl rfl (fun _ => htl)
  have m2 := m1.1.field 5 (.bool true) (S' := { S with steps := S.steps + 1, down := true }) (t' := true) rfl rfl rfl rfl (fun _ => htl)
  have HM := Lib.hid (show Mem _ d (counted S true 0) sv fv lv true from by have := m2.1; unfold counted; rw [← hS]; exact this)
  have HV := Lib.hid (m1.2.trans m2.2)
  have HT := Lib.hid (show Move w (fun k => k = d) ((w.setCell ⟨d, 4, none⟩ (.int .i64 ((s : Int) + 1))).setCell ⟨d, 5, none⟩ (.bool true)) (fun k => k = d) from ⟨Turn.of_grown (only_trans (grownBy_cell _ _ _ _) (grownBy_cell _ _ _ _)) rfl, fun _ h => .inl h⟩)
  have HC := Lib.hid (H _ HM.out HT.out)
  have H2 := Lib.hid h2
  clear H m1 m2 h hsv htl h2 hS hD
  go_enter Tryz.func68, Tryz.ntmps68
  go_wp2_with (first
    | (go_at_call 128; (with_reducible refine HC.out.mono ?_); rintro e w1 ⟨rfl, g1⟩; have G1 := Lib.hid g1; have HR := Lib.hid (show Calls Tryz.prog 67 #[.pointer (some ⟨d, 0, none⟩)] w1 fun e w' => e = .returned (.int .i64 20) ∧ w' = w1 from by obtain ⟨_, _, _, _, hm, _⟩ := g1; have hr := pdready_any _ _ _ _ _ _ _ hm; rw [H2.out] at hr; exact hr); clear g1)
    | (go_at_call 67; (with_reducible refine HR.out.mono ?_); rintro e w2 ⟨rfl, hq⟩; rw [hq]; clear hq w2))
  go_ret
  exact ⟨rfl, Gone.after HV.out G1.out⟩
set_option maxHeartbeats 1000000 in
theorem pstep_write_d (w : World) (d : Nat) (S : DS) (sv fv lv : Value) (p1 p2 p3 : Nat) (h : Mem w d S sv fv lv true) (hd : S.down = false) (hs : S.steps < 9223372036854775807) (hS : S.after = 0) (hD : S.done = false) :
    Calls Tryz.prog 68 #[.pointer (some ⟨d, 0, none⟩), .func (.func 128) #[] #[.pointer (some ⟨p1, 0, none⟩), .pointer (some ⟨p2, 0, none⟩), .pointer (some ⟨p3, 0, none⟩)]] w fun e w' => e = .returned (.int .i64 20) ∧ Gone w d sv fv lv (counted S true 0) w' := by
  have htl := h.tl hd
  have c4 := h.c4
  have c5 := h.c5
  have c6 := h.c6
  have c7 := h.c7
  have c8 := h.c8
  have f4 := h.blk.free 4
  have f5 := h.blk.free 5
  rw [hd] at c5
  rw [hS] at c7
  rw [hD] at c8
  obtain ⟨s, hsv⟩ : ∃ s, s = S.steps := ⟨_, rfl⟩
  rw [← hsv] at c4 hs
  have hw : IntKind.i64.wrap ((s : Int) + 1) = (s : Int) + 1 := by rw [IntKind.wrap_i64]; omega
  have m1 := h.field 4 (.int .i64 ((s : Int) + 1)) (S' := { S with steps := S.steps + 1 }) (t' := true) (by rw [hsv]; rfl) rfl rfl rfl (fun _ => htl)
  have m2 := m1.1.field 5 (.bool true) (S' := { S with steps := S.steps + 1, down := true }) (t' := true) rfl rfl rfl rfl (fun _ => htl)
  have HM := Lib.hid (show Mem _ d (counted S true 0) sv fv lv true from by have := m2.1; unfold counted; rw [← hS]; exact this)
  have HV := Lib.hid (m1.2.trans m2.2)
  have HR := Lib.hid (pdready_any _ _ _ _ _ _ _ HM.out)
  clear m1 m2 h hsv htl hS hD
  go_enter Tryz.func68, Tryz.ntmps68
  go_wp2_with (go_at_call 67; (with_reducible refine HR.out.mono ?_); rintro e w2 ⟨rfl, hq⟩; rw [hq]; clear hq w2)
  go_ret
  exact ⟨rfl, _, _, _, _, HM.out, HV.out⟩
end Go.Proofs.YthmkpekeghcifaaGreatDoor
end

section
/- Texts of one subject in one file: DevPD, DevPE, DevPF, DevPM. Own work. -/
/- The program's device: a step in all its ways at once; a beat; what is told of the power; what is made; bytes read: contracts. Own work. -/
namespace Go.Proofs.YthmkpekeghcifaaGreatDoor
open Go.ChangeShapes Go.WideShapes Go.ChangeAt Go.RowKit
open DM
theorem built_dev (n : Int) : Tryz.prog.built 97 [(0, .int .i64 n)] = some #[.int .i64 n, .slice none 0 0, .slice none 0 0, .slice none 0 0, .int .i64 0, .bool false, .bool false, .int .i64 0, .bool false] := by kernel_rfl
/-- What holds of every device of the program's. -/
structure Inv (S : DS) : Prop where
  short : S.safe.length ≤ S.seen.length
  wr : ∀ x ∈ S.loose, Wr x ∧ x.size ≤ S.seen.length
  same : ∀ k, k < S.seen.length → (∀ x ∈ S.loose, x.at_ / 512 ≠ k / 512) → gb S.safe k = gb S.seen k
  told : S.told = false → S.after = 0
theorem Mem.told {w : World} {d : Nat} {S S' : DS} {sv fv lv : Value} {t : Bool} (h : Mem w d S sv fv lv t) (hd : S'.down = true) (b : Bool) (he : S' = { S with told := b }) : Mem w d S' sv fv lv t := by
  subst he
  exact ⟨h.blk, h.seen, h.safe, h.loose, fun q => (by rw [hd] at q; cases q), h.ns, h.nf, h.nl, h.sf, h.sl, h.fl⟩
/-- What a step does to a device, whatever was told of the power. -/
structure DoesD (f : DS → DS) (S : DS) : Prop where
  at_ : ∀ dn af, f (counted S dn af) = { f S with steps := S.steps + 1, down := dn, after := af }
  steps : (f S).steps = S.steps
  down : (f S).down = S.down
  after : (f S).after = S.after
  told : (f S).told = S.told
theorem does_wrote (S : DS) (a : Nat) (b : List Nat) : DoesD (fun S => wrote S a b) S := ⟨fun _ _ => rfl, rfl, rfl, rfl, rfl⟩
theorem ds_a (X : DS) (n : Nat) (h1 : X.down = false) (h2 : X.after = 0) : ({ X with steps := n, down := false, after := 0 } : DS) = { X with steps := n } := by
  obtain ⟨_, _, _, _, _, _, _, _, _⟩ := X
  simp only at h1 h2
  subst h1 h2; rfl
theorem ds_b (X : DS) (n k : Nat) (h1 : X.down = false) : ({ X with steps := n, down := false, after := k } : DS) = { X with steps := n, after := k } := by
  obtain ⟨_, _, _, _, _, _, _, _, _⟩ := X
  simp only at h1
  subst h1; rfl
theorem ds_c (X : DS) (n : Nat) (b : Bool) (h2 : X.after = 0) : ({ X with steps := n, down := true, after := 0, told := b } : DS) = { X with steps := n, down := true, told := b } := by
  obtain ⟨_, _, _, _, _, _, _, _, _⟩ := X
  simp only at h2
  subst h2; rfl
theorem pstep_write (w : World) (d : Nat) (S : DS) (f : DS → DS) (sv fv lv : Value) (t : Bool) (p1 p2 p3 : Nat) (hm : Mem w d S sv fv lv t) (hd : S.down = false) (hs : S.steps < 9223372036854775807) (ha : S.after ≤ 9223372036854775807) (h0 : S.told = false → S.after = 0) (hf : DoesD f S)
    (H : ∀ dn af w1, af ≤ 9223372036854775807 → (S.told = false → af = 0) → Mem w1 d (counted S dn af) sv fv lv t → Move w (fun k => k = d) w1 (fun k => k = d) → Calls Tryz.prog 128 #[.pointer (some ⟨p1, 0, none⟩), .pointer (some ⟨p2, 0, none⟩), .pointer (some ⟨p3, 0, none⟩)] w1 fun e w' => e = .returned (.tuple #[]) ∧ Gone w1 d sv fv lv (f (counted S dn af)) w') :
    Calls Tryz.prog 68 #[.pointer (some ⟨d, 0, none⟩), .func (.func 128) #[] #[.pointer (some ⟨p1, 0, none⟩), .pointer (some ⟨p2, 0, none⟩), .pointer (some ⟨p3, 0, none⟩)]] w fun e w' => e = .returned (.int .i64 (DM.step S (f S)).2) ∧ Gone w d sv fv lv (DM.step S (f S)).1 w' := by
  have htl := hm.tl hd
  have hfd : (f S).down = false := hf.down.trans hd
  subst htl
  unfold DM.step
  cases ht : S.told with
  | false =>
    have hz := h0 ht
    have hza : (f S).after = 0 := hf.after.trans hz
    rw [ht] at hm H
    rw [if_pos rfl]
    have hr := pstep_write_a w d S (f (counted S false 0)) sv fv lv p1 p2 p3 hm hd hs hz (by rw [hf.at_]) (fun w1 h1 h2 => H false 0 w1 (by omega) (fun _ => rfl) h1 h2)
    rw [hf.at_, ds_a _ _ hfd hza, ← hf.steps] at hr
    exact hr
  | true =>
    rw [ht] at hm H
    rw [if_neg (by decide)]
    by_cases hp : 0 < S.after
    · obtain ⟨af, haf⟩ : ∃ af, S.after = af + 1 := ⟨S.after - 1, by omega⟩
      rw [if_pos hp]
      have hr := pstep_write_b w d S (f (counted S false af)) sv fv lv p1 p2 p3 hm hd hs af haf (by omega) (by rw [hf.at_]) (fun w1 h1 h2 => H false af w1 (by omega) (fun q => by cases q) h1 h2)
      rw [hf.at_, ds_b _ _ _ hfd, ← hf.steps, show af = (f S).after - 1 by rw [hf.after]; omega] at hr
      exact hr
    · have hz : S.after = 0 := by omega
      have hza : (f S).after = 0 := hf.after.trans hz
      rw [if_neg hp]
      cases hD : S.done with
      | true =>
        have hr := pstep_write_c w d S (f (counted S true 0)) sv fv lv p1 p2 p3 hm hd hs hz hD (by rw [hf.at_]) (fun w1 h1 h2 => H true 0 w1 (by omega) (fun _ => rfl) h1 h2)
        rw [hf.at_] at hr
        refine hr.mono fun e w' hh => ⟨hh.1, ?_⟩
        obtain ⟨sv', fv', lv', t', m', v'⟩ := hh.2
        rw [if_pos rfl]
        refine ⟨sv', fv', lv', t', m'.told rfl false ?_, v'⟩
        show ({ f S with steps := S.steps + 1, down := true, told := false } : DS) = _
        rw [← ds_c _ _ _ hza]
      | false =>
        have hr := pstep_write_d w d S sv fv lv p1 p2 p3 hm hd hs hz hD
        refine hr.mono fun e w' hh => ⟨hh.1, ?_⟩
        obtain ⟨sv', fv', lv', t', m', v'⟩ := hh.2
        rw [if_neg (by decide)]
        refine ⟨sv', fv', lv', t', m'.told rfl false ?_, v'⟩
        show ({ S with steps := S.steps + 1, down := true, told := false } : DS) = _
        rw [← ds_c _ _ _ hz]
        rfl
section
variable (w : World) (d : Nat) (S : DS) (sv fv lv : Value) (t : Bool) (h : Mem w d S sv fv lv t)
include h
theorem Gone.same : Gone w d sv fv lv S w := ⟨sv, fv, lv, t, h, Move.refl _ _⟩
set_option maxHeartbeats 1000000 in
theorem pdread_any (a n : Int) (ha : -9223372036854775808 ≤ a ∧ a ≤ 9223372036854775807) (hn : -9223372036854775808 ≤ n ∧ n ≤ 9223372036854775807) (hl : S.seen.length ≤ 16777216) : Calls Tryz.prog 80 #[.pointer (some ⟨d, 0, none⟩), .int .i64 a, .int .i64 n] w fun e w' => ∃ y, e = .returned (.tuple #[y, .int .i64 (DM.read S a n).2]) ∧ Own w' w.heap.size y (DM.read S a n).1 ∧ Below w.heap.size w w' := by
  have HR := Lib.hid (pdready_any w d S sv fv lv t h)
  have c1 := h.c1
  have hsr := h.seen.rd
  obtain ⟨ao, cap, rfl, hc⟩ := h.seen.rd.shape
  clear h
  unfold DM.read
  cases hd : S.down with
  | true =>
    rw [hd] at HR
    go_enter Tryz.func80, Tryz.ntmps80
    go_wp2_with (go_at_call 67; (with_reducible refine HR.out.mono ?_); rintro e w1 ⟨rfl, hq⟩; rw [hq]; clear hq w1)
    go_ret2
    exact ⟨_, rfl, own_nil w, Below.refl _ _⟩
  | false =>
    rw [hd] at HR
    obtain ⟨s, hs⟩ : ∃ s, s = S.seen.length := ⟨_, rfl⟩
    have HS := Lib.hid hs
    rw [← hs] at c1 hc hl ⊢
    by_cases h1 : a < 0
    · have HE := Lib.hid (show (if (false = true) then (([] : List Nat), (20 : Int)) else if a < 0 ∨ n < 0 ∨ (s : Int) < a ∨ (s : Int) - a < n then ([], 43) else ((S.seen.drop a.toNat).take n.toNat, 0)) = ([], 43) by rw [if_neg (by decide), if_pos (.inl h1)])
      rw [HE.out]
      go_enter Tryz.func80, Tryz.ntmps80
      go_wp2_with (go_at_call 67; (with_reducible refine HR.out.mono ?_); rintro e w1 ⟨rfl, hq⟩; rw [hq]; clear hq w1)
      go_ret2
      exact ⟨_, rfl, own_nil w, Below.refl _ _⟩
    · by_cases h2 : n < 0
      · have HE := Lib.hid (show (if (false = true) then (([] : List Nat), (20 : Int)) else if a < 0 ∨ n < 0 ∨ (s : Int) < a ∨ (s : Int) - a < n then ([], 43) else ((S.seen.drop a.toNat).take n.toNat, 0)) = ([], 43) by rw [if_neg (by decide), if_pos (.inr (.inl h2))])
        rw [HE.out]
        go_enter Tryz.func80, Tryz.ntmps80
        go_wp2_with (go_at_call 67; (with_reducible refine HR.out.mono ?_); rintro e w1 ⟨rfl, hq⟩; rw [hq]; clear hq w1)
        go_ret2
        exact ⟨_, rfl, own_nil w, Below.refl _ _⟩
      · have hw : IntKind.i64.wrap ((s : Int) - a) = (s : Int) - a := by rw [IntKind.wrap_i64]; omega
        by_cases h3 : (s : Int) - a < n
        · have HE := Lib.hid (show (if (false = true) then (([] : List Nat), (20 : Int)) else if a < 0 ∨ n < 0 ∨ (s : Int) < a ∨ (s : Int) - a < n then ([], 43) else ((S.seen.drop a.toNat).take n.toNat, 0)) = ([], 43) by rw [if_neg (by decide), if_pos (.inr (.inr (.inr h3)))])
          rw [HE.out]
          go_enter Tryz.func80, Tryz.ntmps80
          go_wp2_with (go_at_call 67; (with_reducible refine HR.out.mono ?_); rintro e w1 ⟨rfl, hq⟩; rw [hq]; clear hq w1)
          go_ret2
          exact ⟨_, rfl, own_nil w, Below.refl _ _⟩
        · have HE := Lib.hid (show (if (false = true) then (([] : List Nat), (20 : Int)) else if a < 0 ∨ n < 0 ∨ (s : Int) < a ∨ (s : Int) - a < n then ([], 43) else ((S.seen.drop a.toNat).take n.toNat, 0)) = ((S.seen.drop a.toNat).take n.toNat, 0) by rw [if_neg (by decide), if_neg (by omega)])
          rw [HE.out]
          obtain ⟨A, rfl⟩ : ∃ A : Nat, a = (A : Int) := ⟨a.toNat, by omega⟩
          obtain ⟨m, rfl⟩ : ∃ m : Nat, n = (m : Int) := ⟨n.toNat, by omega⟩
          simp only [Int.toNat_natCast]
          have hp := (hsr.drop A (by omega)).take m (by rw [List.length_drop]; omega)
          by_cases hcn : cap = A
          · rw [if_pos hcn, hcn, Nat.sub_self] at hp
            have HC := Lib.hid (pclone_any _ _ w hp)
            clear hp hsr hs
            subst hcn
            go_enter Tryz.func80, Tryz.ntmps80
            go_wp2_with (first
              | (go_at_call 67; (with_reducible refine HR.out.mono ?_); rintro e w1 ⟨rfl, hq⟩; rw [hq]; clear hq w1)
              | (go_at_call 37; (with_reducible refine HC.out.mono ?_); rintro e w1 ⟨y, rfl, o1, b1, _⟩; have O1 := Lib.hid o1; have B1 := Lib.hid b1; clear o1 b1))
            go_ret2
            exact ⟨_, rfl, O1.out, B1.out⟩
          · rw [if_neg hcn] at hp
            have HC := Lib.hid (pclone_any _ _ w hp)
            clear hp hsr hs
            go_enter Tryz.func80, Tryz.ntmps80
            go_wp2_with (first
              | (go_at_call 67; (with_reducible refine HR.out.mono ?_); rintro e w1 ⟨rfl, hq⟩; rw [hq]; clear hq w1)
              | (go_at_call 37; (with_reducible refine HC.out.mono ?_); rintro e w1 ⟨y, rfl, o1, b1, _⟩; have O1 := Lib.hid o1; have B1 := Lib.hid b1; clear o1 b1))
            go_ret2
            exact ⟨_, rfl, O1.out, B1.out⟩
end
end Go.Proofs.YthmkpekeghcifaaGreatDoor
/- The program's device: made, loaded, cloned: contracts. Own work. -/
namespace Go.Proofs.YthmkpekeghcifaaGreatDoor
open Go.ChangeShapes Go.WideShapes Go.ChangeAt Go.RowKit
open DM
/-- The device's block, and what its slices lead to, behind a call that wrote the device's own blocks alone. -/
theorem gone_of {w W : World} {d : Nat} {S S' : DS} {sv fv lv sv' fv' lv' : Value} {t t' : Bool} (h : Mem w d S sv fv lv t) (T : Turn (Blks d sv fv lv) w W) (hb : Blk W d 97 (dvc S' sv' fv' lv' t')) (o1 : Own W 0 sv' S'.seen) (o2 : Own W 0 fv' S'.safe) (o3 : W.ownsRow 0 163 514 lv' S'.loose.length (lwcs S'.loose)) (ht : S'.down = false → t' = S'.told)
    (n1 : ∀ g, sv'.ownBlock = some g → sv.ownBlock = some g ∨ w.heap.size ≤ g) (n2 : ∀ g, fv'.ownBlock = some g → fv.ownBlock = some g ∨ w.heap.size ≤ g) (n3 : ∀ g, lv'.ownBlock = some g → lv.ownBlock = some g ∨ w.heap.size ≤ g)
    (x1 : ∀ g, w.heap.size ≤ g → sv'.ownBlock = some g → fv'.ownBlock ≠ some g) (x2 : ∀ g, w.heap.size ≤ g → sv'.ownBlock = some g → lv'.ownBlock ≠ some g) (x3 : ∀ g, w.heap.size ≤ g → fv'.ownBlock = some g → lv'.ownBlock ≠ some g) :
    Mem W d S' sv' fv' lv' t' ∧ Move w (Blks d sv fv lv) W (Blks d sv' fv' lv') := by
  have hl := h.lt
  have hd := hl d (.inl rfl)
  refine ⟨⟨hb, o1, o2, o3, ht, fun e => ?_, fun e => ?_, fun e => ?_, fun g e q => ?_, fun g e q => ?_, fun g e q => ?_⟩, T, ?_⟩
  · rcases n1 d e with z | z
    · exact h.ns z
    · omega
  · rcases n2 d e with z | z
    · exact h.nf z
    · omega
  · rcases n3 d e with z | z
    · exact h.nl z
    · omega
  · rcases n1 g e with z | z
    · rcases n2 g q with y | y
      · exact h.sf g z y
      · have := hl g (.inr (.inl z)); omega
    · exact x1 g z e q
  · rcases n1 g e with z | z
    · rcases n3 g q with y | y
      · exact h.sl g z y
      · have := hl g (.inr (.inl z)); omega
    · exact x2 g z e q
  · rcases n2 g e with z | z
    · rcases n3 g q with y | y
      · exact h.fl g z y
      · have := hl g (.inr (.inr (.inl z))); omega
    · exact x3 g z e q
  · rintro k (rfl | e | e | e)
    · exact .inl (.inl rfl)
    · exact (n1 k e).imp (fun z => .inr (.inl z)) id
    · exact (n2 k e).imp (fun z => .inr (.inr (.inl z))) id
    · exact (n3 k e).imp (fun z => .inr (.inr (.inr z))) id
/-- A new device. -/
theorem mem_new (w : World) (m : Nat) (cs : List Value) (hcs : cs = dvc (DM.new (m : Int)) (.slice none 0 0) (.slice none 0 0) (.slice none 0 0) false) (b : Nat) (hb : b = w.heap.size) : Mem (w.alloc (.cells cs.toArray 97)) b (DM.new (m : Int)) (.slice none 0 0) (.slice none 0 0) (.slice none 0 0) false := by
  subst hcs
  refine ⟨Blk.new w _ _ b hb, (own_nil _).lower (Nat.zero_le _), (own_nil _).lower (Nat.zero_le _), owned_none _ _ _ _, fun _ => rfl, fun e => (by cases e), fun e => (by cases e), fun e => (by cases e), fun g e => (by cases e), fun g e => (by cases e), fun g e => (by cases e)⟩
theorem pdnew_any (n : Int) (w : World) : Calls Tryz.prog 41 #[.int .i64 n] w fun e w' => ∃ d, d = w.heap.size ∧ e = .returned (.pointer (some ⟨d, 0, none⟩)) ∧ Mem w' d (DM.new n) (.slice none 0 0) (.slice none 0 0) (.slice none 0 0) false ∧ Below w.heap.size w w' := by
  obtain ⟨m, hm, hn⟩ : ∃ m : Nat, DM.new n = DM.new (m : Int) ∧ (n < 0 ∧ m = 0 ∨ ¬ n < 0 ∧ 16777216 < n ∧ m = 16777216 ∨ ¬ n < 0 ∧ ¬ 16777216 < n ∧ n = (m : Int)) := by
    by_cases h1 : n < 0
    · exact ⟨0, by unfold DM.new; rw [show (max 0 (min n 16777216)).toNat = (max 0 (min ((0 : Nat) : Int) 16777216)).toNat by omega], .inl ⟨h1, rfl⟩⟩
    · by_cases h2 : 16777216 < n
      · exact ⟨16777216, by unfold DM.new; rw [show (max 0 (min n 16777216)).toNat = (max 0 (min ((16777216 : Nat) : Int) 16777216)).toNat by omega], .inr (.inl ⟨h1, h2, rfl⟩)⟩
      · exact ⟨n.toNat, by rw [show ((n.toNat : Nat) : Int) = n by omega], .inr (.inr ⟨h1, h2, by omega⟩)⟩
  rw [hm]
  have HB := Lib.hid ((Below.refl w.heap.size w).alloc (Nat.le_refl _) (.cells #[.int .i64 (m : Int), .slice none 0 0, .slice none 0 0, .slice none 0 0, .int .i64 0, .bool false, .bool false, .int .i64 0, .bool false] 97))
  have hbd := built_dev (m : Int)
  rcases hn with ⟨h1, rfl⟩ | ⟨h1, h2, rfl⟩ | ⟨h1, h2, rfl⟩
  · have HM := Lib.hid (mem_new w 0 _ rfl _ rfl)
    go_enter Tryz.func41, Tryz.ntmps41
    go_wp2_with fail
    go_ret
    first | exact ⟨_, rfl, rfl, HM.out, HB.out⟩ | exact ⟨rfl, HM.out, HB.out⟩
  · have HM := Lib.hid (mem_new w 16777216 _ rfl _ rfl)
    go_enter Tryz.func41, Tryz.ntmps41
    go_wp2_with fail
    go_ret
    first | exact ⟨_, rfl, rfl, HM.out, HB.out⟩ | exact ⟨rfl, HM.out, HB.out⟩
  · have HM := Lib.hid (mem_new w m [.int .i64 (m : Int), .slice none 0 0, .slice none 0 0, .slice none 0 0, .int .i64 0, .bool false, .bool false, .int .i64 0, .bool false] (by unfold dvc DM.new; rw [show (max 0 (min (m : Int) 16777216)).toNat = m by omega]; rfl) _ rfl)
    clear hm
    go_enter Tryz.func41, Tryz.ntmps41
    go_wp2_with fail
    go_ret
    first | exact ⟨_, rfl, rfl, HM.out, HB.out⟩ | exact ⟨rfl, HM.out, HB.out⟩
section
variable (w : World) (d : Nat) (S : DS) (sv fv lv : Value) (t : Bool) (h : Mem w d S sv fv lv t)
include h
theorem pdload_any (v : Value) (l : List Nat) (hv : Rd w v l) (hne : 0 < l.length → ∀ g, v.ownBlock = some g → ¬ Blks d sv fv lv g) (_hm : S.most ≤ 16777216) : Calls Tryz.prog 23 #[.pointer (some ⟨d, 0, none⟩), v] w fun e w' => e = .returned (.tuple #[]) ∧ Gone w d sv fv lv (DM.load S l) w' := by
  have c0 := h.c0
  have hshape := hv.shape
  unfold DM.load
  by_cases hlm : S.most < l.length
  · rw [if_pos hlm]
    obtain ⟨ao, cap, rfl, hc⟩ := hshape
    have HG := Lib.hid (Gone.same w d S sv fv lv t h)
    have hq : (S.most : Int) < (l.length : Int) := by omega
    clear h hv hne
    go_enter Tryz.func23, Tryz.ntmps23
    go_wp2_with fail
    exact bodyPost_ret (results_none rfl _ _ _) rfl ⟨rfl, HG.out⟩
  · rw [if_neg hlm]
    have HC := Lib.hid (fun W (hW : Rd W v l) => pclone_any v l W hW)
    have HV := Lib.hid hv
    have H := Lib.hid h
    obtain ⟨ao, cap, rfl, hc⟩ := hshape
    have hq : ¬ ((S.most : Int) < (l.length : Int)) := by omega
    clear h hv hne
    go_enter Tryz.func23, Tryz.ntmps23
    go_wp2_with (first
      | (go_at_call 37; (with_reducible refine (HC.out _ (HV.out)).mono ?_); rintro e w1 ⟨y1, rfl, o1, b1, n1⟩; obtain ⟨a1, c1, rfl, _⟩ := o1.rd.shape; have O1 := Lib.hid o1; have B1 := Lib.hid b1; have N1 := Lib.hid n1; clear o1 b1 n1)
      | (go_at_call 37; (with_reducible refine (HC.out _ (HV.out.below B1.out)).mono ?_); rintro e w2 ⟨y2, rfl, o2, b2, n2⟩; obtain ⟨a2, c2, rfl, _⟩ := o2.rd.shape; have B12 := Lib.hid (B1.out.on b2); have D2 := Lib.hid (H.out.blk.below B12.out H.out.blk.lt); have k1 := D2.out.cell 1 _ rfl; have k2 := D2.out.cell 2 _ rfl; have k3 := D2.out.cell 3 _ rfl; have g1 := D2.out.free 1; have g2 := D2.out.free 2; have g3 := D2.out.free 3; have O2 := Lib.hid o2; have B2 := Lib.hid b2; have N2 := Lib.hid n2; clear o2 b2 n2))
    obtain ⟨y1, hy1⟩ : ∃ y, y = Value.slice a1 l.length c1 := ⟨_, rfl⟩
    obtain ⟨y2, hy2⟩ : ∃ y, y = Value.slice a2 l.length c2 := ⟨_, rfl⟩
    rw [← hy1] at O1 N1 ⊢
    rw [← hy2] at O2 N2 ⊢
    have r1 := O1.out.below B2.out
    have hlt : ∀ g, y1.ownBlock = some g → g < w1.heap.size := fun g q => (O1.out.from g q).2
    have hd := H.out.blk.lt
    have hs1 := B1.out.size
    have hs2 := B2.out.size
    obtain ⟨W, hW⟩ : ∃ W, W = ((w2.setCell ⟨d, 1, none⟩ y1).setCell ⟨d, 2, none⟩ y2).setCell ⟨d, 3, none⟩ (.slice none 0 0) := ⟨_, rfl⟩
    have hg : w2.grownBy W (some d) := by rw [hW]; exact only_trans (only_trans (grownBy_cell _ _ _ _) (grownBy_cell _ _ _ _)) (grownBy_cell _ _ _ _)
    have hne1 : y1.ownBlock = none ∨ y1.ownBlock ≠ some d := .inr fun q => by have := N1.out d q; omega
    have hne2 : y2.ownBlock = none ∨ y2.ownBlock ≠ some d := .inr fun q => by have := N2.out d q; omega
    have hB : Blk W d 97 (dvc { S with seen := l, safe := l, loose := [] } y1 y2 (.slice none 0 0) t) := by rw [hW]; exact ((D2.out.set 1 y1).set 2 y2).set 3 _
    have hr := gone_of H.out (S' := { S with seen := l, safe := l, loose := [] }) (t' := t) ((Turn.of_below B12.out).trans (Turn.of_grown (F := Blks d sv fv lv) hg (.inl rfl)) (fun _ q => .inl q)) hB ((r1.lower (Nat.zero_le _)).keep hg hne1) ((O2.out.lower (Nat.zero_le _)).keep hg hne2) (owned_none _ _ _ _) H.out.tl
      (fun g q => .inr (N1.out g q)) (fun g q => .inr (by have := N2.out g q; omega)) (fun g q => by cases q) (fun g _ q e => by have := hlt g q; have := N2.out g e; omega) (fun g _ _ e => by cases e) (fun g _ _ e => by cases e)
    exact bodyPost_end (results_none rfl _ _ _) rfl ⟨rfl, _, _, _, _, by rw [← hW]; exact hr.1, by rw [← hW]; exact hr.2⟩
end
end Go.Proofs.YthmkpekeghcifaaGreatDoor
/- The program's loose writes in memory: their type, appended to, cloned: contracts. Own work. -/
namespace Go.Proofs.YthmkpekeghcifaaGreatDoor
open Go.ChangeShapes Go.WideShapes Go.ChangeAt Go.RowKit
open DM
/-- A loose write of nought. -/
def zlw : List Value := .int .i64 0 :: .int .i64 0 :: row8 (List.replicate 512 0)
theorem zlw_len : zlw.length = 514 := by unfold zlw; rw [List.length_cons, List.length_cons, row8_len, List.length_replicate]
theorem infoDW : (Tryz.prog.info? 163).map (fun i => (i.zero, i.size, i.bytes)) = some (some (.agg zlw.toArray), 514, 528) := by kernel_rfl
theorem undW : Tryz.prog.underlying 93 = some (.slice 163) := by kernel_rfl
end Go.Proofs.YthmkpekeghcifaaGreatDoor
/- A device's sectors, on numbers: what is copied where. Own work. -/
end

section
/- Texts of one subject in one file: DevPG, DevPH, DevPI, DevPJ, DevPK. Own work. -/
/- What makes all that is seen safe: contract. Written by gen_devsecure.py. Own work. -/
namespace Go.Proofs.YthmkpekeghcifaaGreatDoor
open Go.ChangeShapes Go.WideShapes Go.ChangeAt Go.RowKit
open DM
theorem Turn.of_row {F : Nat → Prop} {w w' : World} {row : Option Nat} (h : w.grownBy w' row) (hF : ∀ g, row = some g → F g) : Turn F w w' := ⟨h.os, h.tape, h.output, h.size, fun k hk hn => h.block k hk (fun e => hn (hF k e.symm))⟩
/-- The slice v lies where fv lay, or in a new block. -/
def Newer (v fv : Value) (n : Nat) : Prop := ∀ g, v.ownBlock = some g → fv.ownBlock = some g ∨ n ≤ g
theorem newer {v fv : Value} {n : Nat} (k : v.ownBlock = fv.ownBlock ∨ v.ownBlock = some n) : Newer v fv n := fun g e => by
  rcases k with k | k
  · exact .inl (k ▸ e)
  · rw [k] at e; have := Option.some.inj e; right; omega
section
variable {w W : World} {d : Nat} {S : DS} {sv fv lv : Value} {t : Bool} {v : Value} {F : List Nat}
/-- What is seen has turned, and the slice is stored. -/
theorem Mem.seenTo (h : Mem w d S sv fv lv t) (o : Own W 0 v F) (g : w.grownBy W sv.ownBlock) (k : Newer v sv w.heap.size) : Mem (W.setCell ⟨d, 1, none⟩ v) d { S with seen := F } v fv lv t ∧ Move w (Blks d sv fv lv) (W.setCell ⟨d, 1, none⟩ v) (Blks d v fv lv) := by
  have hl := h.lt
  have hg2 := grownBy_cell W d 1 v
  have nv : v.ownBlock ≠ some d := fun q => by
    rcases k d q with z | z
    · exact h.ns z
    · have := hl d (.inl rfl); omega
  have nf : fv.ownBlock = none ∨ fv.ownBlock ≠ sv.ownBlock := by
    cases e : fv.ownBlock with
    | none => exact .inl rfl
    | some g => exact .inr (fun q => h.sf g q.symm e)
  have nl : lv.ownBlock = none ∨ lv.ownBlock ≠ sv.ownBlock := by
    cases e : lv.ownBlock with
    | none => exact .inl rfl
    | some g => exact .inr (fun q => h.sl g q.symm e)
  refine gone_of h ((Turn.of_row g (fun j e => .inr (.inl e))).trans (Turn.of_grown (F := Blks d sv fv lv) hg2 (.inl rfl)) (fun _ q => .inl q)) ((h.blk.grown g (fun e => h.ns e.symm)).set 1 v) (o.keep hg2 (.inr nv)) ((h.safe.keep g nf).keep hg2 (.inr h.nf)) (World.ownsRow.kept (World.ownsRow.kept h.loose g nl) hg2 (.inr h.nl)) h.tl
    (fun j e => k j e) (fun j e => .inl e) (fun j e => .inl e) (fun j hj e q => ?_) (fun j hj e q => ?_) (fun j hj e => ?_)
  · have := hl j (.inr (.inr (.inl q))); omega
  · have := hl j (.inr (.inr (.inr q))); omega
  · have := hl j (.inr (.inr (.inl e))); omega
end
/-- A call, and a store of what it told. -/
def CS (c : Nat) (w0 : World) (P1 : Value → World → Prop) (b k : Nat) : Nat → Told → World → Prop
  | 0, _, w => w = w0
  | 1, r, w => ∃ v, r c = some v ∧ P1 v w
  | _, r, w => ∃ v W, r c = some v ∧ P1 v W ∧ w = W.setCell ⟨b, k, none⟩ v
end Go.Proofs.YthmkpekeghcifaaGreatDoor
/- A Start of the program's device: contracts. Written by gen_devpstart.py. Own work. -/
/- A Start of the program's device, whole: contract. Written by gen_devpstart2.py. Own work. -/
namespace Go.Proofs.YthmkpekeghcifaaGreatDoor
open Go.ChangeShapes Go.WideShapes Go.ChangeAt Go.RowKit
open DM
theorem Rd.turnF {w W : World} {F : Nat → Prop} {y : Value} {l : List Nat} (h : Rd w y l) (T : Turn F w W) (hne : 0 < l.length → ∀ g, y.ownBlock = some g → ¬ F g) : Rd W y l := by
  rcases Nat.eq_zero_or_pos l.length with q | q
  · obtain rfl := List.eq_nil_of_length_eq_zero q
    exact rd_empty h
  · exact h.keep fun g hg hlt => T.block g hlt (hne q g hg)
end Go.Proofs.YthmkpekeghcifaaGreatDoor
/- An Edit of the program's device; a Sync: contracts. Written by gen_devpedit.py. Own work. -/
/- A clone of the program's device: contract. Written by gen_devpclone.py. Own work. -/
end

section
/- Texts of one subject in one file: RoundIn, RangeFn, RangeFnO, Lasts. Own work. -/
/- A region that draws its order within a round of a range over a function: whatever walks it outside walks it there too. Own work. -/
namespace Go.Proofs.YthmkpekeghcifaaGreatDoor
open Go.RowKit
variable {P : Program} {r n : Nat} {Q : Exit → Act → World → Prop}
/-- The fence that lets all in, in a round of loop r. -/
abbrev roundF (r : Nat) : Fence := Fence.wide.inRound r
theorem rowsIn_round {row : String} {args : Array Value} {w : World} {R : Value → World → Prop} (h : Rows P row args w R) : RowsIn (roundF r) n P row args w R := fun c cs _ => by
  obtain ⟨v, w', hr, hs⟩ := h c cs
  exact ⟨v, w', hr, stepsIn_wide.2 hs⟩
theorem callsIn_round {f : FuncId} {args : Array Value} {w : World} {R : Ending → World → Prop} (h : Calls P f args w R) : CallsIn (roundF r) n P f args w R := CallsIn.inRound r (callsIn_wide.2 h)
theorem opIn_round {o : Oper} {a : Act} {w : World} {K : Act → World → Prop} (hd : ∀ c, o.op ≠ .defer c) (h : o.wp P a w K Q) : o.wpIn (roundF r) n P a w K Q := by
  refine ⟨fun _ _ => trivial, ?_⟩
  rw [Oper.semAt_eq _ _ _ hd]
  unfold Oper.wp at h
  generalize (execOp a.eval o).run P w = x at h ⊢
  cases x with
  | ok y w' =>
    cases y with
    | value v => exact h
    | skip => exact h
    | defer d => exact h
    | enter f args => exact ⟨fun e => absurd e (by simp [Fence.wide]), callsIn_round h⟩
    | row row args => exact ⟨fun e => absurd e (by simp [Fence.wide]), rowsIn_round h⟩
    | _ => exact h.elim
  | halt y w' => cases y <;> exact h
def noDeferB (ops : Array Oper) : Bool := ops.all fun o => match o.op with | .defer _ => false | _ => true
theorem noDefer {ops : Array Oper} (h : noDeferB ops = true) {i : Nat} {o : Oper} (ho : ops[i]? = some o) : ∀ c, o.op ≠ .defer c := by
  intro c e
  unfold noDeferB at h
  rw [Array.all_eq_true] at h
  obtain ⟨hi, e2⟩ := Array.getElem?_eq_some_iff.1 ho
  have := h i hi
  rw [e2, e] at this
  cases this
theorem anyIn_round {ops : Array Oper} (hd : noDeferB ops = true) (hq : ¬ LetsOut Q) : ∀ (k : Nat) (l : Array Bool) (a : Act) (w : World), wpAny P .any ops Q k l a w → wpAnyIn (roundF r) n P .any ops Q k l a w := by
  intro k
  induction k with
  | zero => intro l a w h; exact h
  | succ k ih =>
    intro l a w h
    refine ⟨h.1, fun i hi => ?_⟩
    have hx := h.2 i hi
    unfold wpOp at hx
    unfold wpOpIn
    cases ho : ops[i]? with
    | none => rw [ho] at hx; exact ih _ _ _ hx
    | some o =>
      rw [ho] at hx
      simp only at hx ⊢
      split
      · rename_i hw
        rw [if_pos hw] at hx
        rcases hx with q | ⟨_, q⟩
        · exact opIn_round (noDefer hd ho) (Oper.wp_mono (fun a w => ih _ a w) q)
        · exact absurd q hq
      · rename_i hw
        rw [if_neg hw] at hx
        exact ⟨fun _ _ => trivial, ih _ _ _ hx⟩
theorem wpIn_region_round {id : Nat} {ops : Array Oper} {a : Act} {w : World} (hm : P.follows .mixedOrders = true) (hd : noDeferB ops = true) (hq : ¬ LetsOut Q) (h : RegAny P ops Q a w) : (Code.region id ops true).wpIn (roundF r) n P Q a w :=
  wpIn_region_draw fun t => by
    simp only [Region.schedule, hm, Bool.true_or, if_true]
    exact wpAnyIn_sound ops.size t _ a _ (anyIn_round hd hq _ _ _ _ h)
theorem opsIn_round {ops : Array Oper} (hd : noDeferB ops = true) (hq : ¬ LetsOut Q) : ∀ (l : List Nat) (a : Act) (w : World), wpOps P ops Q l a w → wpOpsIn (roundF r) n P ops Q l a w
  | [], _, _, h => h
  | i :: l, a, w, h => by
    rw [wpOps_cons] at h
    rw [wpOpsIn_cons]
    unfold wpOp at h
    unfold wpOpIn
    cases ho : ops[i]? with
    | none => rw [ho] at h; exact opsIn_round hd hq l _ _ h
    | some o =>
      rw [ho] at h
      simp only at h ⊢
      split
      · rename_i hw
        rw [if_pos hw] at h
        rcases h with q | ⟨_, q⟩
        · exact opIn_round (noDefer hd ho) (Oper.wp_mono (fun a w => opsIn_round hd hq l a w) q)
        · exact absurd q hq
      · rename_i hw
        rw [if_neg hw] at h
        exact ⟨fun _ _ => trivial, opsIn_round hd hq l _ _ h⟩
/-- A region in order, within a round. -/
theorem wpIn_list_round {id : Nat} {ops : Array Oper} {a : Act} {w : World} (hd : noDeferB ops = true) (hq : ¬ LetsOut Q) (h : wpList P ops Q ops.toList a w) : (Code.region id ops false).wpIn (roundF r) n P Q a w :=
  wpIn_region (opsIn_round hd hq _ _ _ (by rw [List.range_eq_range', ← Array.length_toList, wpOps_eq_wpList ops.toList 0 (by simp)]; exact h))
end Go.Proofs.YthmkpekeghcifaaGreatDoor
/- A range over a function of one's own, which is ended by its rounds alone or runs out: the iterator is told what its caller's invariant says (so it may go on without end where the invariant bounds the rounds). Own work over the library's two steps (the statement's, a round's). -/
namespace Go.Proofs.YthmkpekeghcifaaGreatDoor
open Go.RowKit
variable {P : Program}
/-- What of a world a lasting condition may not mind: new blocks, and turns of blocks from B on that hold no cells. -/
def Lasts (B : Nat) (I : World → Prop) : Prop := ∀ A A', I A → (∃ row, A.grownBy A' row ∧ ∀ r, row = some r → B ≤ r ∧ ∃ o : Obj, A.heap[r]? = some o ∧ o.isCells = false) → I A'
theorem Lasts.put {B : Nat} {I : World → Prop} (h : Lasts B I) {A : World} {l : Nat} {o : Obj} (o' : Obj) (hi : I A) (hB : B ≤ l) (hl : A.heap[l]? = some o) (ho : o.isCells = false) : I (A.putObj l o') :=
  h A _ hi ⟨some l, grownBy_putObj' A l o', fun r e => by cases e; exact ⟨hB, o, hl, ho⟩⟩
theorem Lasts.grow {B : Nat} {I : World → Prop} (h : Lasts B I) {A A' : World} (hi : I A) (hb : Below A.heap.size A A') : I A' :=
  h A _ hi ⟨none, ⟨hb.os, hb.tape, hb.output, hb.size, fun k hk _ => hb.block k hk⟩, fun r e => by cases e⟩
theorem Lasts.ex {B : Nat} {α : Sort _} {I : α → World → Prop} (h : ∀ x, Lasts B (I x)) : Lasts B (fun w => ∃ x, I x w) := fun A A' ⟨x, hi⟩ hs => ⟨x, h x A A' hi hs⟩
theorem Lasts.pure {B : Nat} (p : Prop) : Lasts B (fun _ => p) := fun _ _ hi _ => hi
/-- A block of cells lasts. -/
theorem lasts_cells {B g : Nat} {cur : Array Value} {t : TypeId} {k : Nat × Nat} : Lasts B (fun w => w.heap[g]? = some (.cells cur t k)) := by
  rintro A A' hi ⟨row, hg, hr⟩
  refine (hg.block g (Array.getElem?_eq_some_iff.1 hi).1 (fun e => ?_)).trans hi
  obtain ⟨_, o, ho, hc⟩ := hr g e.symm
  rw [hi] at ho; cases ho; cases hc
/-- The two blocks that the statement itself lays. -/
def RecAt (fn : FuncId) (a : Act) (ps : Array Tmp) (assign body : Code) (D : Nat) (st : LoopState) (pe : Option Code) (A : World) : Prop :=
  A.heap[D + 1]? = some (.loop { state := st, pending := pe, fn, tmps := a.tmps, params := ps, assign, body, defers := D }) ∧ A.heap[D]? = some (.deferred (some []))
theorem RecAt.grow {fn : FuncId} {a : Act} {ps : Array Tmp} {assign body : Code} {D : Nat} {st : LoopState} {pe : Option Code} {A A' : World} (h : RecAt fn a ps assign body D st pe A) (hb : Below A.heap.size A A') : RecAt fn a ps assign body D st pe A' :=
  ⟨(hb.block _ (Array.getElem?_eq_some_iff.1 h.1).1).trans h.1, (hb.block _ (Array.getElem?_eq_some_iff.1 h.2).1).trans h.2⟩
theorem RecAt.keep {fn : FuncId} {a : Act} {ps : Array Tmp} {assign body : Code} {D : Nat} {st : LoopState} {pe : Option Code} {A A' : World} (h : RecAt fn a ps assign body D st pe A) (hb : KeepsFrom D A A') : RecAt fn a ps assign body D st pe A' :=
  ⟨hb.same _ _ (by omega) h.1 rfl, hb.same _ _ (Nat.le_refl _) h.2 rfl⟩
theorem RecAt.put {fn : FuncId} {a : Act} {ps : Array Tmp} {assign body : Code} {D : Nat} {st st' : LoopState} {pe pe' : Option Code} {A : World} (h : RecAt fn a ps assign body D st pe A) :
    RecAt fn a ps assign body D st' pe' (A.putObj (D + 1) (.loop { state := st', pending := pe', fn, tmps := a.tmps, params := ps, assign, body, defers := D })) :=
  ⟨World.putObj_heap_same (Array.getElem?_eq_some_iff.1 h.1).1, (World.putObj_heap_other (by omega)).trans h.2⟩
/-- How a round's body may be left. -/
def endPost {α : Type} (D : Nat) (I : List α → World → Prop) (Ix : Code → List α → World → Prop) (xs : List α) (W : World) : Exit → Act → World → Prop
  | .normal, _, W' => KeepsFrom D W W' ∧ I xs W'
  | .ret, _, W' => KeepsFrom D W W' ∧ Ix .ret xs W'
  | .exit id, _, W' => KeepsFrom D W W' ∧ Ix (.exit id) xs W'
  | .goto t, _, W' => KeepsFrom D W W' ∧ Ix (.goto t) xs W'
  | .panic _, _, _ => False
  | .outgrown, _, _ => False
end Go.Proofs.YthmkpekeghcifaaGreatDoor
/- A range over a function of one's own, which tells more of what it yields: of the next thing, what stands ahead. Own work over the library's two steps (the statement's, a round's). -/
namespace Go.Proofs.YthmkpekeghcifaaGreatDoor
open Go.RowKit
variable {P : Program}
theorem wp_range_fn_ok {α : Type} {g : Operand} {ps : Array Tmp} {assign body : Code} {Q : Exit → Act → World → Prop} {a : Act} {w : World} {gf : Nat} {lb : Array Value}
    (hg : a.eval g = .func (.func gf) #[] lb) (eg : ∀ args w, (callFunc gf args).run P w = .ok (.enter gf args) w) (encs : α → Array Value) (hps : ∀ x, (encs x).size = ps.size)
    (I : List α → World → Prop) (Ix : Code → List α → World → Prop) (Ax : Act → α → Act → World → Prop) (S Sp : List α → Prop) (N : List α → α → Prop)
    (hI : ∀ pre, Lasts w.heap.size (I pre)) (hIx : ∀ c pre, Lasts w.heap.size (Ix c pre)) (hAx : ∀ x b, Lasts w.heap.size (Ax a x b)) (h0 : I [] w)
    (hseq : ∀ (l : Nat) (J Jx : List α → World → Prop) (W : World), Below w.heap.size w W → (∀ pre A, J pre A → I pre A) →
      (∀ pre A A', J pre A → Below A.heap.size A A' → J pre A') → (∀ pre A A', Jx pre A → Below A.heap.size A A' → Jx pre A') →
      (∀ pre x A, N pre x → J pre A → YieldAt Fence.wide 0 P l (encs x) A fun e A' => (e = .returned (.bool true) ∧ J (pre ++ [x]) A') ∨ (e = .returned (.bool false) ∧ Jx (pre ++ [x]) A')) → J [] W →
      CallsIn Fence.wide 0 P gf (#[.func (.yield l) #[] #[]] ++ lb) W fun e W' => (∃ v, e = .returned v) ∧ ((∃ xs, S xs ∧ J xs W') ∨ (∃ pre, Sp pre ∧ Jx pre W')))
    (hassign : ∀ (l : Nat) (pre : List α) (x : α) (W : World) (K : Act → World → Prop), N pre x → I pre W → (∀ b W', KeepsFrom w.heap.size W W' → I pre W' → Ax a x b W' → K b W') →
      assign.wpIn (roundF l) 0 P (Exit.then K (fun _ _ _ => False)) { tmps := (ps.zip (encs x)).foldl (fun t (p, v) => t.setIfInBounds p v) a.tmps, defers := [] } W)
    (hbody : ∀ (l : Nat) (pre : List α) (x : α) (b : Act) (W : World), N pre x → I pre W → Ax a x b W → body.wpIn (roundF l) 0 P (endPost w.heap.size I Ix (pre ++ [x]) W) b W)
    (hdone : ∀ (xs : List α) (W : World), S xs → I xs W → W.heap[w.heap.size]? = some (.deferred (some [])) → Q .normal { a with defers := { target := .collected w.heap.size, args := #[] } :: a.defers } W)
    (hstop : ∀ (c : Code) (pre : List α) (W : World), Sp pre → Ix c pre W → W.heap[w.heap.size]? = some (.deferred (some [])) → c.wp P Q { a with defers := { target := .collected w.heap.size, args := #[] } :: a.defers } W) :
    (Code.rangeFunc g ps assign body).wp P Q a w := by
  refine (wpIn_wide (n := 0)).1 (wpIn_rangeFunc fun fn _ => ?_)
  obtain ⟨D, hD⟩ : ∃ D, D = w.heap.size := ⟨_, rfl⟩
  obtain ⟨W1, hW1⟩ : ∃ W1, W1 = (w.alloc (.deferred (some []))).alloc (.loop { state := .ready, pending := none, fn, tmps := a.tmps, params := ps, assign, body, defers := w.heap.size }) := ⟨_, rfl⟩
  have b1 : Below w.heap.size w W1 := by rw [hW1]; exact ((Below.refl _ w).alloc (Nat.le_refl _) _).alloc (by simp) _
  have r1 : RecAt fn a ps assign body D .ready none W1 := by
    rw [hW1, hD]
    refine ⟨?_, (Below.heap_alloc _ _ _ (by simp)).trans (World.alloc_heap_new w _)⟩
    have := World.alloc_heap_new (w.alloc (.deferred (some []))) (.loop { state := .ready, pending := none, fn, tmps := a.tmps, params := ps, assign, body, defers := w.heap.size })
    rwa [World.size_alloc] at this
  rw [← hD] at hI hIx hAx hassign hbody hdone hstop
  refine ⟨w.heap.size + 1, [{ target := .collected w.heap.size, args := #[] }], W1, { target := .fn (.func gf) lb, args := #[.func (.yield (w.heap.size + 1)) #[] #[]] }, W1, gf, #[.func (.yield (w.heap.size + 1)) #[] #[]] ++ lb, W1, ?_, ?_, fun _ _ => trivial, ?_, fun e => absurd e (by simp [Fence.wide]), ?_⟩
  · rw [hW1]; exact run_enterLoop_outer _ _ _ _ _
  · simp only [resolve, hg]
    simp [go_sem]
  · simp [invoke, go_sem, eg]
  rw [← hD]
  refine (hseq (D + 1) (fun pre A => I pre A ∧ RecAt fn a ps assign body D .ready none A) (fun pre A => ∃ c, Ix c pre A ∧ RecAt fn a ps assign body D .done (some c) A) W1 b1 (fun _ _ h => h.1)
    (fun pre _ _ h hb => ⟨(hI pre).grow h.1 hb, h.2.grow hb⟩) (fun pre _ _ h hb => h.elim fun c h => ⟨c, (hIx c pre).grow h.1 hb, h.2.grow hb⟩) ?_ ⟨(hI []).grow h0 b1, r1⟩).mono ?_
  · rintro pre x A hN ⟨hi, hrec⟩
    refine ⟨fn, _, assign, body, run_yield hrec.1 (hps x), roundIn_of_wpIn trivial (hassign (D + 1) pre x A _ hN hi fun b A1 hk1 hi1 hx1 => ?_)⟩
    have q1 := hrec.keep hk1
    refine ⟨_, run_beginRound q1.1 rfl, ?_⟩
    have q2 := q1.put (st' := .busy) (pe' := none)
    have hlt := Nat.le_succ D
    refine wpIn_mono (hbody (D + 1) pre x b _ hN ((hI pre).put _ hi1 hlt q1.1 rfl) ((hAx x b).put _ hx1 hlt q1.1 rfl)) ?_
    rintro e c A2 hp
    cases e with
    | normal =>
      have q3 := q2.keep hp.1
      exact ⟨_, _, run_endRound none q3.1, .inl ⟨rfl, (hI _).put _ hp.2 hlt q3.1 rfl, q3.put⟩⟩
    | ret =>
      have q3 := q2.keep hp.1
      exact ⟨_, _, run_endRound (some .ret) q3.1, .inr ⟨rfl, _, (hIx _ _).put _ hp.2 hlt q3.1 rfl, q3.put⟩⟩
    | exit id =>
      have q3 := q2.keep hp.1
      exact ⟨_, _, run_endRound (some (.exit id)) q3.1, .inr ⟨rfl, _, (hIx _ _).put _ hp.2 hlt q3.1 rfl, q3.put⟩⟩
    | goto t =>
      have q3 := q2.keep hp.1
      exact ⟨_, _, run_endRound (some (.goto t)) q3.1, .inr ⟨rfl, _, (hIx _ _).put _ hp.2 hlt q3.1 rfl, q3.put⟩⟩
    | panic ch => exact hp.elim
    | outgrown => exact hp.elim
  · rintro e A ⟨⟨v, rfl⟩, hx⟩
    rcases hx with ⟨xs, hs, hi, hrec⟩ | ⟨pre, hs, c, hi, hrec⟩
    · exact ⟨none, _, run_endLoop hrec.1 (by simp), hdone xs _ hs ((hI xs).put _ hi (Nat.le_succ D) hrec.1 rfl) ((World.putObj_heap_other (by omega)).trans hrec.2)⟩
    · exact ⟨some c, _, run_endLoop hrec.1 (by simp), wpIn_wide.2 (hstop c pre _ hs ((hIx c pre).put _ hi (Nat.le_succ D) hrec.1 rfl) ((World.putObj_heap_other (by omega)).trans hrec.2))⟩
end Go.Proofs.YthmkpekeghcifaaGreatDoor
/- What lies in memory lasts while a range over a function does its own book-keeping. Own work. -/
namespace Go.Proofs.YthmkpekeghcifaaGreatDoor
open Go.RowKit
theorem lasts_blk {B g : Nat} {t : TypeId} {vs : List Value} : Lasts B (fun w => Blk w g t vs) := lasts_cells
theorem lasts_size {B k : Nat} : Lasts B (fun w => k ≤ w.heap.size) := fun _ _ hi ⟨_, hg, _⟩ => Nat.le_trans hi hg.size
theorem keeps_below {B : Nat} {w w' : World} (h : Below w.heap.size w w') : KeepsFrom B w w' := ⟨h.size, fun k _ _ hk _ => (h.block k (Array.getElem?_eq_some_iff.1 hk).1).trans hk⟩
end Go.Proofs.YthmkpekeghcifaaGreatDoor
end

section
/- Bytes copied into a block, among the operations of a region that draws (FactsZ). Own work. -/
namespace Go.Proofs.YthmkpekeghcifaaGreatDoor
open Go.ChangeShapes Go.WideShapes Go.ChangeAt Go.RowKit
section
variable {ops : List Oper} {Q : Exit → Act → World → Prop} {o : Oper} {a : Act} {w : World} {I : Told → World → Prop} {tbl : List Fz} {r : Told} {i : Nat} {S : List Nat}
/-- Bytes are copied into a block. -/
theorem doesZ_copyB (hi : i ∈ S) (hw : Region.wanted o (yielded ops.toArray a.tmps) = true) (d s : Operand) (dT sT : TypeId) (ho : o.op = .call { callee := .builtin .copy, args := #[d, s], argTypes := #[dT, sT] }) (hu : Tryz.prog.underlying dT = some (.slice 5)) (g off dLen dCap : Nat) (t : TypeId) (cur : List Value) (hg : Blk w g t cur) (dp : Option Addr) (hd : a.eval d = .slice dp dLen dCap) (y : Value) (hs : a.eval s = y) (m : List Nat) (hy : Rd w y m) (k : Nat) (hk : k = min m.length dLen) (hdp : 0 < k → dp = some ⟨g, off, none⟩) (hfit : off + k ≤ cur.length)
    (h : ∀ w', Blk w' g t (splice cur off (row8 (m.take k))) → w.grownBy w' (some g) → I (r.set i (.int .i64 (k : Int))) w' ∧ (tbl.getD i .any).holds (r.set i (.int .i64 (k : Int))) (.int .i64 (k : Int))) :
    DoesK Tryz.prog ops Q o a w (fun v w' => I (if i ∈ S then r.set i v else r) w' ∧ (tbl.getD i .any).holds (if i ∈ S then r.set i v else r) v) := by
  refine doesZ_turn hi hw fun K hK => ?_
  obtain ⟨w', hrun, h2, h3⟩ := run_copy_blk dT sT o.type hu g off dLen dCap t cur hg dp y m hy k hk hdp hfit
  unfold Oper.wp
  simp only [execOp, ho, resolve, invoke, builtin, Sem.run_bind, Sem.run_pure, Result.andThen_ok, List.map_toArray, List.map_cons, List.map_nil, hd, hs, hrun]
  exact hK _ _ (h w' h2 h3).1 (h w' h2 h3).2
end
end Go.Proofs.YthmkpekeghcifaaGreatDoor
end

section
/- Texts of one subject in one file: DevPL, DevPN, DevPInv. Own work. -/
/- The function that yields the sectors that bytes touch: contract. Own work. -/
namespace Go.Proofs.YthmkpekeghcifaaGreatDoor
open Go.ChangeShapes Go.WideShapes Go.ChangeAt Go.RowKit
open DM
attribute [local go_sem] Oper.semAt_some
/-- A sector that begins within L bytes. -/
abbrev Sec (L : Nat) := { q : Nat // q * 512 < L }
abbrev encS {L : Nat} (x : Sec L) : Array Value := #[.int .i64 (x.1 : Int)]
/-- Where the j-th round begins. -/
def nx (a j : Nat) : Nat := if j = 0 then a else (a / 512 + j) * 512
theorem nx_div (a j : Nat) : nx a j / 512 = a / 512 + j := by unfold nx; split <;> omega
theorem nx_lt (a n j : Nat) (hj : j ≤ many a n) : nx a j < a + n ↔ j < many a n := by
  unfold nx many at *
  split <;> split at hj <;> split <;> omega
theorem ptouched_any (a n : Nat) (w : World) : Calls Tryz.prog 152 #[.int .i64 (a : Int), .int .i64 (n : Int)] w fun e w' =>
    ∃ ba bn, ba = w.heap.size ∧ bn = w.heap.size + 1 ∧ e = .returned (.func (.func 163) #[] #[.pointer (some ⟨ba, 0, none⟩), .pointer (some ⟨bn, 0, none⟩)]) ∧ Blk w' ba 3 [.int .i64 (a : Int)] ∧ Blk w' bn 3 [.int .i64 (n : Int)] ∧ Below w.heap.size w w' ∧ w'.heap.size = w.heap.size + 2 := by
  go_enter Tryz.func152, Tryz.ntmps152
  go_wp2_with fail
  go_ret
  exact ⟨_, _, rfl, rfl, by simp, (Blk.new w _ [.int .i64 (a : Int)] _ rfl).alloc _, Blk.new _ _ [.int .i64 (n : Int)] _ (by simp), ((Below.refl _ w).alloc (Nat.le_refl _) _).alloc (by simp) _, by simp⟩
set_option maxRecDepth 100000 in
set_option maxHeartbeats 2000000 in
theorem ptouch_iter (L ba bn a n : Nat) (ha : a ≤ 16777216) (hn : n ≤ 16777216) (hL : a + n ≤ L) (l : Nat) (J Jx : List (Sec L) → World → Prop) (W : World)
    (hJI : ∀ pre A, J pre A → Blk A ba 3 [.int .i64 (a : Int)] ∧ Blk A bn 3 [.int .i64 (n : Int)])
    (hY : ∀ pre x A, x.1 = a / 512 + pre.length ∧ pre.length < many a n → J pre A → YieldAt Fence.wide 0 Tryz.prog l (encS x) A fun e A' => (e = .returned (.bool true) ∧ J (pre ++ [x]) A') ∨ (e = .returned (.bool false) ∧ Jx (pre ++ [x]) A')) (h0 : J [] W) :
    CallsIn Fence.wide 0 Tryz.prog 163 #[.func (.yield l) #[] #[], .pointer (some ⟨ba, 0, none⟩), .pointer (some ⟨bn, 0, none⟩)] W fun e W' => (∃ v, e = .returned v) ∧ ((∃ xs : List (Sec L), xs.map (·.1) = (List.range (many a n)).map (a / 512 + ·) ∧ J xs W') ∨ ∃ pre, Jx pre W') := by
  have HJI := Lib.hid hJI
  have HY := Lib.hid hY
  have H0 := Lib.hid h0
  clear hJI hY h0
  have c1 := (HJI.out _ _ H0.out).1.cell 0 _ rfl
  have hfw : ∀ f, Fence.wide.fn f = True := fun _ => rfl
  have hdw : Fence.wide.depth = none := rfl
  refine callsIn_of_wp Tryz.func163 rfl trivial ?_ rfl
  simp only [Tryz.ntmps163, List.size_toArray, List.length_cons, List.length_nil, Nat.reduceAdd, Nat.reduceSub, Array.replicate_succ, Array.replicate_zero, List.push_toArray, List.append_toArray, List.nil_append, List.cons_append]
  gi_wp2
  gi_loopw [4] (fun p wr => ∃ pre : List (Sec L), p = .int .i64 ((nx a pre.length : Nat) : Int) ∧ pre.map (·.1) = (List.range pre.length).map (a / 512 + ·) ∧ pre.length ≤ many a n ∧ J pre wr) (fun p _ => a + n - (intOf p).toNat)
  case atStart => exact ⟨[], rfl, rfl, Nat.zero_le _, H0.out⟩
  case round =>
    obtain ⟨pre, rfl, hp, hle, hj⟩ := hrel
    obtain ⟨hba, hbn⟩ := HJI.out _ _ hj
    have ca := hba.cell 0 _ rfl
    have cn := hbn.cell 0 _ rfl
    have HLT := Lib.hid (nx_lt a n pre.length hle)
    have HDV := Lib.hid (nx_div a pre.length)
    have HP := Lib.hid hp
    have HJ := Lib.hid hj
    have HLE := Lib.hid hle
    have hw1 : IntKind.i64.wrap ((a : Int) + (n : Int)) = (a : Int) + (n : Int) := by rw [IntKind.wrap_i64]; omega
    clear hp hj hle hba hbn
    obtain ⟨p, hpd⟩ : ∃ p, p = nx a pre.length := ⟨_, rfl⟩
    have HPD := Lib.hid hpd
    rw [← hpd] at HLT HDV ⊢
    clear hpd
    by_cases hlt : pre.length < many a n
    · have hc := HLT.out.2 hlt
      have hcz : (p : Int) < (a : Int) + (n : Int) := by omega
      have hsec := (many_pos hlt).2
      obtain ⟨q, hq⟩ : ∃ q, q = a / 512 + pre.length := ⟨_, rfl⟩
      rw [← hq] at HDV hsec
      have hq2 : (p : Int) / 512 = (q : Int) := by have := HDV.out; omega
      have hqb : q ≤ 65536 := by omega
      obtain ⟨y, hyq⟩ : ∃ y : Sec L, y.1 = q := ⟨⟨q, by omega⟩, rfl⟩
      obtain ⟨fn, tmps, assign, body, hy, hR⟩ := HY.out pre y wr ⟨by rw [hyq]; exact hq, hlt⟩ HJ.out
      dsimp only [encS] at hy
      rw [hyq] at hy
      have HYQ := Lib.hid hyq
      clear hyq
      have HQ := Lib.hid hq
      have HLT2 := Lib.hid hlt
      have HSEC := Lib.hid hsec
      clear hlt hq hsec
      gi_wp2
      refine hR.mono ?_
      rintro e w6 (⟨rfl, hj⟩ | ⟨rfl, hj⟩)
      · have HJ6 := Lib.hid hj
        clear hj hy hR
        gi_wp2
        go_roundw
        case rel =>
          refine ⟨pre ++ [y], ?_, ?_, by rw [List.length_append]; exact HLT2.out, HJ6.out⟩
          · rw [List.length_append, List.length_singleton, show nx a (pre.length + 1) = (q + 1) * 512 by unfold nx; rw [if_neg (by omega)]; have := HQ.out; omega]
            go_num
          · rw [List.map_append, List.length_append, HP.out, List.length_singleton, List.range_succ, List.map_append]
            show _ ++ [y.1] = _ ++ [a / 512 + pre.length]
            rw [HYQ.out, HQ.out]
        case measure =>
          have := HDV.out
          simp [intOf]
          omega
      · have HJ6 := Lib.hid hj
        clear hj hy hR
        gi_wp2
        exact bodyPost_ret (results_none rfl _ _ _) rfl ⟨⟨_, rfl⟩, .inr ⟨_, HJ6.out⟩⟩
    · have hc : ¬ p < a + n := fun q => hlt (HLT.out.1 q)
      have hcz : ¬ ((p : Int) < (a : Int) + (n : Int)) := by omega
      have HE := Lib.hid (show pre.length = many a n by have := HLE.out; omega)
      clear hlt
      gi_wp2
      exact bodyPost_end (results_none rfl _ _ _) rfl ⟨⟨_, rfl⟩, .inl ⟨pre, HP.out.trans (by rw [HE.out]), HJ.out⟩⟩
end Go.Proofs.YthmkpekeghcifaaGreatDoor
/- A loose write in memory: made, copied into, appended; what lasts while a range over a function does its own book-keeping. Own work. -/
namespace Go.Proofs.YthmkpekeghcifaaGreatDoor
open Go.ChangeShapes Go.WideShapes Go.ChangeAt Go.RowKit
open DM
theorem built_write (q : Int) : Tryz.prog.built 163 [(0, .int .i64 q)] = some (.int .i64 q :: .int .i64 0 :: row8 (List.replicate 512 0)).toArray := by kernel_rfl
theorem zeroDW (w : World) : (zeroValue 163).run Tryz.prog w = .ok (.agg zlw.toArray) w := by kernel_rfl
/-- The sector q of what is seen, as a loose write has it. -/
def secW (X : List Nat) (q : Nat) : LW := ⟨q * 512, (X.take (min (q * 512 + 512) X.length)).drop (q * 512), min (q * 512 + 512) X.length⟩
theorem secW_bytes (X : List Nat) (q : Nat) (hq : q * 512 < X.length) : (secW X q).bytes = (X.drop (q * 512)).take (min (X.length - q * 512) 512) ∧ (secW X q).bytes.length = min (X.length - q * 512) 512 := by
  have e : (secW X q).bytes = (X.drop (q * 512)).take (min (X.length - q * 512) 512) := by
    show (X.take (min (q * 512 + 512) X.length)).drop (q * 512) = _
    rw [List.drop_take]
    congr 1
    omega
  refine ⟨e, ?_⟩
  rw [e, List.length_take, List.length_drop]; omega
theorem secW_wr (X : List Nat) (q : Nat) (hq : q * 512 < X.length) : Wr (secW X q) ∧ (secW X q).size ≤ X.length := by
  have h := (secW_bytes X q hq).2
  refine ⟨⟨?_, by omega, by omega, ?_⟩, Nat.min_le_right _ _⟩
  · show q * 512 % 512 = 0; omega
  · show min (q * 512 + 512) X.length = q * 512 + _; omega
/-- What a loose write's cells are once its bytes are copied, and how many is laid. -/
theorem secW_cells (X : List Nat) (q k : Nat) (hq : q * 512 < X.length) (hk : k = min (X.length - q * 512) 512) :
    (splice (.int .i64 (q : Int) :: .int .i64 0 :: row8 (List.replicate 512 0)) 2 (row8 ((X.drop (q * 512)).take k))).set 1 (.int .i64 (k : Int)) = lwc (secW X q) := by
  obtain ⟨h1, h2⟩ := secW_bytes X q hq
  have e0 : (row8 ((X.drop (q * 512)).take k)).length = k := by rw [row8_len, List.length_take, List.length_drop]; omega
  unfold splice lwc padTo
  rw [e0, h2, h1, ← hk, show (secW X q).at_ / 512 = q from by show q * 512 / 512 = q; omega]
  show ([_, _] ++ (_ ++ List.drop (2 + k) _)).set 1 _ = _
  rw [Nat.add_comm 2 k, List.drop_succ_cons, List.drop_succ_cons, row8_app]
  have e1 : (row8 (List.replicate 512 0)).drop k = row8 (List.replicate (512 - k) 0) := by unfold row8; rw [← List.map_drop, List.drop_replicate]
  rw [e1]
  rfl
theorem own_cells {w : World} {b : Nat} {v : Value} {l : List Nat} (h : Own w b v l) (g : Nat) (e : v.ownBlock = some g) : ∃ cur t k, w.heap[g]? = some (.cells cur t k) := by
  rcases h.1.2 with ⟨q, _⟩ | ⟨g', cap, cur, q, _, hh, _⟩
  · rw [q] at e; cases e
  · rw [q] at e
    obtain rfl : g' = g := Option.some.inj e
    exact ⟨_, _, _, hh⟩
theorem row_cells {w : World} {B k n : Nat} {t : TypeId} {v : Value} {cs : List Value} (h : w.ownsRow B t k v n cs) (g : Nat) (e : v.ownBlock = some g) : ∃ cur t k, w.heap[g]? = some (.cells cur t k) := by
  rcases h.2 with ⟨q, _⟩ | ⟨g', cap, cur, q, _, hh, _⟩
  · rw [q] at e; cases e
  · rw [q] at e
    obtain rfl : g' = g := Option.some.inj e
    exact ⟨_, _, _, hh⟩
theorem Mem.cells {w : World} {d : Nat} {S : DS} {sv fv lv : Value} {t : Bool} (h : Mem w d S sv fv lv t) (k : Nat) (hk : Blks d sv fv lv k) : ∃ cur t k', w.heap[k]? = some (.cells cur t k') := by
  rcases hk with rfl | q | q | q
  · exact ⟨_, _, _, h.blk⟩
  · exact own_cells h.seen k q
  · exact own_cells h.safe k q
  · exact row_cells h.loose k q
theorem lasts_mem {B d : Nat} {S : DS} {sv fv lv : Value} {t : Bool} : Lasts B (fun w => Mem w d S sv fv lv t) := by
  rintro A A' hi ⟨row, hg, hr⟩
  refine hi.keep ⟨0, Blks d sv fv lv, ⟨hg.os, hg.tape, hg.output, hg.size, fun k hk q => hg.block k hk (fun e => ?_)⟩, fun k hk => .inr hk⟩
  obtain ⟨cur, t', k', hc⟩ := hi.cells k (q.resolve_left (by omega))
  obtain ⟨_, o, ho, hn⟩ := hr k e.symm
  rw [hc] at ho; cases ho; cases hn
theorem lasts_turn {B : Nat} {w : World} {F : Nat → Prop} (hB : w.heap.size ≤ B) : Lasts B (fun w' => Turn F w w') := by
  rintro A A' hi ⟨row, hg, hr⟩
  exact ⟨hg.os.trans hi.os, hg.tape.trans hi.tape, hg.output.trans hi.output, Nat.le_trans hi.size hg.size, fun k hk hn => (hg.block k (Nat.lt_of_lt_of_le hk hi.size) (fun e => by have := (hr k e.symm).1; omega)).trans (hi.block k hk hn)⟩
theorem lasts_move {B : Nat} {w : World} {F G : Nat → Prop} (hB : w.heap.size ≤ B) : Lasts B (fun w' => Move w F w' G) := fun A A' hi hs => ⟨lasts_turn hB A A' hi.turn hs, hi.into⟩
theorem keeps_row {B b k n : Nat} {t : TypeId} {v : Value} {cs : List Value} {w w' : World} (ho : w.ownsRow b t k v n cs) (h : w.grownBy w' v.ownBlock) : KeepsFrom B w w' :=
  (KeepsOthers.of_grownBy h fun j o e hj => by
    obtain ⟨cur, t', k', hc⟩ := row_cells ho j e
    rw [hc] at hj; cases hj; rfl).from B
/-- What is loose has turned, and the slice is stored. -/
theorem Mem.looseTo {w W : World} {d : Nat} {S : DS} {sv fv lv v : Value} {t : Bool} {L : List LW} (h : Mem w d S sv fv lv t) (o : W.ownsRow 0 163 514 v L.length (lwcs L)) (g : w.grownBy W lv.ownBlock) (k : Newer v lv w.heap.size) : Mem (W.setCell ⟨d, 3, none⟩ v) d { S with loose := L } sv fv v t ∧ Move w (Blks d sv fv lv) (W.setCell ⟨d, 3, none⟩ v) (Blks d sv fv v) := by
  have hl := h.lt
  have hg2 := grownBy_cell W d 3 v
  have nv : v.ownBlock ≠ some d := fun q => by
    rcases k d q with z | z
    · exact h.nl z
    · have := hl d (.inl rfl); omega
  have ns : sv.ownBlock = none ∨ sv.ownBlock ≠ lv.ownBlock := by
    cases e : sv.ownBlock with
    | none => exact .inl rfl
    | some g => exact .inr (fun q => h.sl g e q.symm)
  have nf : fv.ownBlock = none ∨ fv.ownBlock ≠ lv.ownBlock := by
    cases e : fv.ownBlock with
    | none => exact .inl rfl
    | some g => exact .inr (fun q => h.fl g e q.symm)
  refine gone_of h ((Turn.of_row g (fun j e => .inr (.inr (.inr e)))).trans (Turn.of_grown (F := Blks d sv fv lv) hg2 (.inl rfl)) (fun _ q => .inl q)) ((h.blk.grown g (fun e => h.nl e.symm)).set 3 v) ((h.seen.keep g ns).keep hg2 (.inr h.ns)) ((h.safe.keep g nf).keep hg2 (.inr h.nf)) (World.ownsRow.kept o hg2 (.inr nv)) h.tl
    (fun j e => .inl e) (fun j e => .inl e) (fun j e => k j e) (fun j hj e => ?_) (fun j hj e => ?_) (fun j hj e => ?_)
  · have := hl j (.inr (.inl e)); omega
  · have := hl j (.inr (.inl e)); omega
  · have := hl j (.inr (.inr (.inl e))); omega
section
variable {ops : List Oper} {Q : Exit → Act → World → Prop} {o : Oper} {a : Act} {w : World} {I : Told → World → Prop} {tbl : List Fz} {r : Told} {i : Nat} {S : List Nat}
/-- A row is loaded. -/
theorem doesZ_row (hi : i ∉ S) (hw : Region.wanted o (yielded ops.toArray a.tmps) = true) (ty : TypeId) (x : Operand) (ho : o.op = .load ty x) (c f : Nat) (hx : a.eval x = .pointer (some ⟨c, f, none⟩)) (cs : List Value) (hr : w.rangeAt c f cs) (d : TypeDesc) (hu : Tryz.prog.underlying ty = some d) (hd : d.isRow = true) (hn : (Tryz.prog.info? ty).map (·.size) = some cs.length) (hI : I r w) (hf : (tbl.getD i .any).holds r (.agg cs.toArray)) :
    DoesK Tryz.prog ops Q o a w (fun v w' => I (if i ∈ S then r.set i v else r) w' ∧ (tbl.getD i .any).holds (if i ∈ S then r.set i v else r) v) := by
  simp only [if_neg hi]
  exact doesK_load hw ty x ho c f hx cs hr d hu hd hn ⟨hI, hf⟩
end
end Go.Proofs.YthmkpekeghcifaaGreatDoor
/- What holds of every device of the program's lasts. Own work. -/
namespace Go.Proofs.YthmkpekeghcifaaGreatDoor
open DM
theorem Inv.new (m : Int) : Inv (DM.new m) := ⟨Nat.le_refl _, fun x hx => (by cases (show x ∈ ([] : List LW) from hx)), fun _ _ _ => rfl, fun _ => rfl⟩
theorem many_of (a n k : Nat) (h1 : a ≤ k) (h2 : k < a + n) : k / 512 - a / 512 < many a n := by
  unfold many
  rw [if_neg (by omega)]
  omega
theorem Inv.wrote {S : DS} (h : Inv S) (p : Nat) (l : List Nat) (hp : p ≤ S.seen.length) : Inv (wrote S p l) := by
  have hge := laid_ge S.seen p l
  refine ⟨Nat.le_trans h.short hge, fun x hx => ?_, fun k hk hx => ?_, h.told⟩
  · rcases List.mem_append.1 hx with q | q
    · exact ⟨(h.wr x q).1, Nat.le_trans (h.wr x q).2 hge⟩
    · obtain ⟨j, hj, rfl⟩ := List.mem_map.1 q
      have hm := many_pos (List.mem_range.1 hj)
      have hlt : (p / 512 + j) * 512 < (laid S.seen p l).length := Nat.lt_of_lt_of_le hm.2 (laid_to _ _ _ (by omega))
      exact secW_wr (laid S.seen p l) (p / 512 + j) hlt
  · show gb S.safe k = gb (laid S.seen p l) k
    rw [laid_get]
    have hk2 : k < (laid S.seen p l).length := hk
    split
    · rename_i hc
      exfalso
      refine hx (sector (laid S.seen p l) p (k / 512 - p / 512)) (List.mem_append.2 (.inr (List.mem_map.2 ⟨_, List.mem_range.2 (many_of p l.length k hc.2.1 hc.2.2), rfl⟩))) ?_
      show (p / 512 + (k / 512 - p / 512)) * 512 / 512 = k / 512
      have := hc.2.1
      omega
    · rename_i hc
      refine h.same k ?_ (fun x hxm => hx x (List.mem_append.2 (.inl hxm)))
      by_cases hl : l = []
      · rw [hl, laid_nil] at hk2; exact hk2
      · rw [laid_len _ _ _ hl] at hk2
        have : ¬ (p ≤ k ∧ k < p + l.length) := fun q => hc ⟨hl, q.1, q.2⟩
        omega
theorem Inv.step {S x : DS} (h : Inv S) (k : Inv x) (ht : x.told = S.told) (ha : x.after = S.after) : Inv (DM.step S x).1 := by
  unfold DM.step
  cases q : S.told with
  | false => exact ⟨k.short, k.wr, k.same, k.told⟩
  | true =>
    rw [if_neg (by decide)]
    by_cases hz : 0 < S.after
    · rw [if_pos hz]
      exact ⟨k.short, k.wr, k.same, fun e => by rw [show x.told = true from ht.trans q] at e; cases e⟩
    · rw [if_neg hz]
      cases S.done with
      | true => exact ⟨k.short, k.wr, k.same, fun _ => by show x.after = 0; omega⟩
      | false => exact ⟨h.short, h.wr, h.same, fun _ => by show S.after = 0; omega⟩
theorem Inv.write {S : DS} (h : Inv S) (z : Int) (l : List Nat) : Inv (DM.write S z l).1 := by
  unfold DM.write
  split
  · exact h
  · split
    · exact h
    · split
      · exact h
      · rename_i h1 _
        exact h.step (h.wrote _ _ (by omega)) rfl rfl
theorem Inv.load {S : DS} (h : Inv S) (b : List Nat) : Inv (DM.load S b) := by
  unfold DM.load
  split
  · exact h
  · exact ⟨Nat.le_refl _, fun x hx => (by cases (show x ∈ ([] : List LW) from hx)), fun _ _ _ => rfl, h.told⟩
end Go.Proofs.YthmkpekeghcifaaGreatDoor
end
