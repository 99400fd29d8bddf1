/- Texts of one subject in one file: DevPG, DevPH, DevPI, DevPJ, DevPK. Own work. -/
import Derived.Test.YtipdcocliefppaaDevGB
import Derived.Test.YtipdcocliefppaaDevGA
import Derived.Test.YtipdcocliefppaaDevRefX
/- What makes all that is seen safe: contract. Written by gen_devsecure.py. Own work. -/
namespace Go.Proofs.Ytipdcocliefppaa
open Go.ChangeShapes Go.WideShapes Go.ChangeAt Go.RowKit
open DM
theorem Turn.of_row {F : Nat → Prop} {w w' : World} {row : Option Nat} (h : w.grownBy w' row) (hF : ∀ g, row = some g → F g) : Turn F w w' := ⟨h.os, h.tape, h.output, h.size, fun k hk hn => h.block k hk (fun e => hn (hF k e.symm))⟩
/-- The slice v lies where fv lay, or in a new block. -/
def Newer (v fv : Value) (n : Nat) : Prop := ∀ g, v.ownBlock = some g → fv.ownBlock = some g ∨ n ≤ g
theorem newer {v fv : Value} {n : Nat} (k : v.ownBlock = fv.ownBlock ∨ v.ownBlock = some n) : Newer v fv n := fun g e => by
  rcases k with k | k
  · exact .inl (k ▸ e)
  · rw [k] at e; have := Option.some.inj e; right; omega
theorem Newer.trans {a b c : Value} {n m : Nat} (h : Newer b c n) (k : Newer a b m) (hm : n ≤ m) : Newer a c n := fun g e => (k g e).elim (fun q => h g q) (fun q => .inr (by omega))
/-- Two calls in a row that turn one slice. -/
theorem grown_two {a b c : World} {v u : Value} (h : a.grownBy b v.ownBlock) (k : b.grownBy c u.ownBlock) (e : u.ownBlock = v.ownBlock ∨ u.ownBlock = some a.heap.size) : a.grownBy c v.ownBlock := by
  rcases e with q | q
  · rw [q] at k; exact only_trans h k
  · rw [q] at k; exact only_new h k
section
variable {w W : World} {d : Nat} {S : DS} {sv fv lv : Value} {t : Bool} {v : Value} {F : List Nat}
/-- What is safe has turned, and the slice is stored. -/
theorem Mem.safeTo (h : Mem w d S sv fv lv t) (o : Own W 0 v F) (g : w.grownBy W fv.ownBlock) (k : Newer v fv w.heap.size) : Mem (W.setCell ⟨d, 2, none⟩ v) d { S with safe := F } sv v lv t ∧ Move w (Blks d sv fv lv) (W.setCell ⟨d, 2, none⟩ v) (Blks d sv v lv) := by
  have hl := h.lt
  have hg2 := grownBy_cell W d 2 v
  have nv : v.ownBlock ≠ some d := fun q => by
    rcases k d q with z | z
    · exact h.nf z
    · have := hl d (.inl rfl); omega
  have hs1 := fun g (e : sv.ownBlock = some g) => h.sf g e
  have ns : sv.ownBlock = none ∨ sv.ownBlock ≠ fv.ownBlock := by
    cases e : sv.ownBlock with
    | none => exact .inl rfl
    | some g => exact .inr (fun q => h.sf g e q.symm)
  have nl : lv.ownBlock = none ∨ lv.ownBlock ≠ fv.ownBlock := by
    cases e : lv.ownBlock with
    | none => exact .inl rfl
    | some g => exact .inr (fun q => h.fl g q.symm e)
  refine gone_of h ((Turn.of_row g (fun j e => .inr (.inr (.inl e)))).trans (Turn.of_grown (F := Blks d sv fv lv) hg2 (.inl rfl)) (fun _ q => .inl q)) ((h.blk.grown g (fun e => h.nf e.symm)).set 2 v) ((h.seen.keep g ns).keep hg2 (.inr h.ns)) (o.keep hg2 (.inr nv)) (World.ownsRow.kept (World.ownsRow.kept h.loose g nl) hg2 (.inr h.nl)) h.tl
    (fun j e => .inl e) (fun j e => k j e) (fun j e => .inl e) (fun j hj e => ?_) (fun j hj e => ?_) (fun j hj e q => ?_)
  · have := hl j (.inr (.inl e)); omega
  · have := hl j (.inr (.inl e)); omega
  · have := hl j (.inr (.inr (.inr q))); omega
/-- What is safe has turned in its place. -/
theorem Mem.safeIn (h : Mem w d S sv fv lv t) (o : Own W 0 fv F) (g : w.grownBy W fv.ownBlock) : Mem W d { S with safe := F } sv fv lv t ∧ Move w (Blks d sv fv lv) W (Blks d sv fv lv) := by
  have ns : sv.ownBlock = none ∨ sv.ownBlock ≠ fv.ownBlock := by
    cases e : sv.ownBlock with
    | none => exact .inl rfl
    | some g => exact .inr (fun q => h.sf g e q.symm)
  have nl : lv.ownBlock = none ∨ lv.ownBlock ≠ fv.ownBlock := by
    cases e : lv.ownBlock with
    | none => exact .inl rfl
    | some g => exact .inr (fun q => h.fl g q.symm e)
  exact ⟨⟨h.blk.grown g (fun e => h.nf e.symm), h.seen.keep g ns, o, World.ownsRow.kept h.loose g nl, h.tl, h.ns, h.nf, h.nl, h.sf, h.sl, h.fl⟩, Turn.of_row g (fun j e => .inr (.inr (.inl e))), fun _ q => .inl q⟩
/-- Nothing is loose any more. -/
theorem Mem.looseNil (h : Mem w d S sv fv lv t) : Mem (w.setCell ⟨d, 3, none⟩ (.slice none 0 0)) d { S with loose := [] } sv fv (.slice none 0 0) t ∧ Move w (Blks d sv fv lv) (w.setCell ⟨d, 3, none⟩ (.slice none 0 0)) (Blks d sv fv (.slice none 0 0)) := by
  have hl := h.lt
  have hg2 := grownBy_cell w d 3 (.slice none 0 0)
  refine gone_of h (Turn.of_grown (F := Blks d sv fv lv) hg2 (.inl rfl)) (h.blk.set 3 _) (h.seen.keep hg2 (.inr h.ns)) (h.safe.keep hg2 (.inr h.nf)) (owned_none _ _ _ _) h.tl (fun j e => .inl e) (fun j e => .inl e) (fun j e => by cases e) (fun j hj e => ?_) (fun j _ _ e => by cases e) (fun j _ _ e => by cases e)
  have := hl j (.inr (.inl e)); omega
/-- What is seen has turned, and the slice is stored. -/
theorem Mem.seenTo (h : Mem w d S sv fv lv t) (o : Own W 0 v F) (g : w.grownBy W sv.ownBlock) (k : Newer v sv w.heap.size) : Mem (W.setCell ⟨d, 1, none⟩ v) d { S with seen := F } v fv lv t ∧ Move w (Blks d sv fv lv) (W.setCell ⟨d, 1, none⟩ v) (Blks d v fv lv) := by
  have hl := h.lt
  have hg2 := grownBy_cell W d 1 v
  have nv : v.ownBlock ≠ some d := fun q => by
    rcases k d q with z | z
    · exact h.ns z
    · have := hl d (.inl rfl); omega
  have nf : fv.ownBlock = none ∨ fv.ownBlock ≠ sv.ownBlock := by
    cases e : fv.ownBlock with
    | none => exact .inl rfl
    | some g => exact .inr (fun q => h.sf g q.symm e)
  have nl : lv.ownBlock = none ∨ lv.ownBlock ≠ sv.ownBlock := by
    cases e : lv.ownBlock with
    | none => exact .inl rfl
    | some g => exact .inr (fun q => h.sl g q.symm e)
  refine gone_of h ((Turn.of_row g (fun j e => .inr (.inl e))).trans (Turn.of_grown (F := Blks d sv fv lv) hg2 (.inl rfl)) (fun _ q => .inl q)) ((h.blk.grown g (fun e => h.ns e.symm)).set 1 v) (o.keep hg2 (.inr nv)) ((h.safe.keep g nf).keep hg2 (.inr h.nf)) (World.ownsRow.kept (World.ownsRow.kept h.loose g nl) hg2 (.inr h.nl)) h.tl
    (fun j e => k j e) (fun j e => .inl e) (fun j e => .inl e) (fun j hj e q => ?_) (fun j hj e q => ?_) (fun j hj e => ?_)
  · have := hl j (.inr (.inr (.inl q))); omega
  · have := hl j (.inr (.inr (.inr q))); omega
  · have := hl j (.inr (.inr (.inl e))); omega
end
/-- A call, and a store of what it told. -/
def CS (c : Nat) (w0 : World) (P1 : Value → World → Prop) (b k : Nat) : Nat → Told → World → Prop
  | 0, _, w => w = w0
  | 1, r, w => ∃ v, r c = some v ∧ P1 v w
  | _, r, w => ∃ v W, r c = some v ∧ P1 v W ∧ w = W.setCell ⟨b, k, none⟩ v
/-- A copy. -/
def CP (w0 : World) (v : Value) (l : List Nat) : Nat → Told → World → Prop
  | 0, _, w => w = w0
  | _, _, w => Own w 0 v l ∧ w0.grownBy w v.ownBlock
set_option maxRecDepth 100000 in
set_option maxHeartbeats 1000000 in
theorem psecure_any (w : World) (d : Nat) (S : DS) (sv fv lv : Value) (t : Bool) (h : Mem w d S sv fv lv t) (hi : Inv S) (ho : S.seen.length ≤ 16777216) (hll : S.loose.length ≤ 34359738368) : Calls Try.prog 46 #[.pointer (some ⟨d, 0, none⟩)] w fun e w' => e = .returned (.tuple #[]) ∧ Gone w d sv fv lv (synced S) w' := by
  obtain ⟨so, sc, rfl, hsc⟩ := h.seen.rd.shape
  obtain ⟨fo, fc, rfl, hfc⟩ := h.safe.rd.shape
  obtain ⟨sl, hsl⟩ : ∃ n, n = S.seen.length := ⟨_, rfl⟩
  obtain ⟨fl, hfl⟩ : ∃ n, n = S.safe.length := ⟨_, rfl⟩
  have HSL := Lib.hid hsl
  have HFL := Lib.hid hfl
  have HI := Lib.hid hi
  have HO := Lib.hid ho
  have hsh := hi.short
  rw [← hsl] at h hsc ho hsh
  rw [← hfl] at h hfc hsh
  have H := Lib.hid h
  clear h hi hsl hfl
  go_enter Try.func46, Try.ntmps46
  go_upto_region 0 with fail
  have HM := Lib.hid (H.out.below (Below.refl _ _).drew)
  have BD := Lib.hid ((Below.refl w.heap.size w).drew)
  obtain ⟨w1, hw1⟩ : ∃ w1, w1 = w.drew := ⟨_, rfl⟩
  rw [← hw1] at HM BD
  have HW1 := Lib.hid hw1
  clear hw1
  have HR := Lib.hid (preach_any 0 (.slice fo fl fc) S.safe sl w1 HM.out.safe (Nat.zero_le _) (by omega) (by rw [← HFL.out]; omega))
  refine wp_region_z (by kernel_rfl) [10, 13] (by kernel_rfl) (by kernel_rfl) (Stg [10, 13] (CS 10 w1 (fun v W => Own W 0 v (padTo S.safe sl) ∧ w1.grownBy W (Value.slice fo fl fc).ownBlock ∧ (v.ownBlock = (Value.slice fo fl fc).ownBlock ∨ v.ownBlock = some w1.heap.size)) d 2)) [.pre (.pointer (some ⟨d, 0, none⟩)), .pre (.pointer (some ⟨d, 0, none⟩)), .pre (.pointer (some ⟨d, 0, none⟩)), .pre (.pointer (some ⟨d, 2, none⟩)), .pre (.slice fo fl fc), .pre (.pointer (some ⟨d, 0, none⟩)), .pre (.pointer (some ⟨d, 0, none⟩)), .pre (.pointer (some ⟨d, 1, none⟩)), .pre (.slice so sl sc), .pre (.int .i64 (sl : Int)), .of 10 (fun u v => v = u), .pre (.pointer (some ⟨d, 0, none⟩)), .pre (.pointer (some ⟨d, 2, none⟩)), .any] (fun i hi hq => by
        simp only [List.mem_cons, List.mem_nil_iff, or_false] at hi
        rcases hi with rfl | rfl
        · exact absurd hq (by decide +kernel)
        · rfl) (Stg.zero (show _ = w1 from HW1.out.symm)) ?_ ?_
  · refine ⟨?_, ?_, ?_, ?_, ?_, ?_, ?_, ?_, ?_, ?_, ?_, ?_, ?_, ?_, trivial⟩
    · intro a w5 r hF hI hns hri h1 h2 hd
      have e0 : a.eval (.tmp 0) = .pointer (some ⟨d, 0, none⟩) := hF 0 (by decide +kernel)
      exact doesZ_read (v := .pointer (some ⟨d, 0, none⟩)) (by decide) rfl (ex_move rfl e0) hI rfl
    · intro a w5 r hF hI hns hri h1 h2 hd
      have e0 : a.eval (.tmp 0) = .pointer (some ⟨d, 0, none⟩) := hF 0 (by decide +kernel)
      exact doesZ_read (v := .pointer (some ⟨d, 0, none⟩)) (by decide) rfl (ex_move rfl e0) hI rfl
    · intro a w5 r hF hI hns hri h1 h2 hd
      have e5 : a.eval (.tmp 5) = .pointer (some ⟨d, 0, none⟩) := hd 1 (by decide +kernel)
      exact doesZ_read (v := .pointer (some ⟨d, 0, none⟩)) (by decide) rfl (ex_nilCheck rfl e5) hI rfl
    · intro a w5 r hF hI hns hri h1 h2 hd
      have e6 : a.eval (.tmp 6) = .pointer (some ⟨d, 0, none⟩) := hd 2 (by decide +kernel)
      exact doesZ_read (v := .pointer (some ⟨d, 2, none⟩)) (by decide) rfl (ex_fieldAddr rfl e6 (by go_simp)) hI rfl
    · intro a w5 r hF hI hns hri h1 h2 hd
      have e7 : a.eval (.tmp 7) = .pointer (some ⟨d, 2, none⟩) := hd 3 (by decide +kernel)
      have hA : CS 10 w1 (fun v W => Own W 0 v (padTo S.safe sl) ∧ w1.grownBy W (Value.slice fo fl fc).ownBlock ∧ (v.ownBlock = (Value.slice fo fl fc).ownBlock ∨ v.ownBlock = some w1.heap.size)) d 2 0 r w5 := hI.at_ 0 (.inl rfl) (.inr ⟨by decide, h1 10 (by decide) (by decide +kernel)⟩)
      have hw : w5 = w1 := hA
      subst hw
      have c2 := HM.out.c2
      exact doesZ_read (v := .slice fo fl fc) (by decide) rfl (by unfold execOp; simp only [e7]; go_simp) hI rfl
    · intro a w5 r hF hI hns hri h1 h2 hd
      have e0 : a.eval (.tmp 0) = .pointer (some ⟨d, 0, none⟩) := hF 0 (by decide +kernel)
      exact doesZ_read (v := .pointer (some ⟨d, 0, none⟩)) (by decide) rfl (ex_move rfl e0) hI rfl
    · intro a w5 r hF hI hns hri h1 h2 hd
      have e9 : a.eval (.tmp 9) = .pointer (some ⟨d, 0, none⟩) := hd 5 (by decide +kernel)
      exact doesZ_read (v := .pointer (some ⟨d, 0, none⟩)) (by decide) rfl (ex_nilCheck rfl e9) hI rfl
    · intro a w5 r hF hI hns hri h1 h2 hd
      have e10 : a.eval (.tmp 10) = .pointer (some ⟨d, 0, none⟩) := hd 6 (by decide +kernel)
      exact doesZ_read (v := .pointer (some ⟨d, 1, none⟩)) (by decide) rfl (ex_fieldAddr rfl e10 (by go_simp)) hI rfl
    · intro a w5 r hF hI hns hri h1 h2 hd
      have e11 : a.eval (.tmp 11) = .pointer (some ⟨d, 1, none⟩) := hd 7 (by decide +kernel)
      have hA : CS 10 w1 (fun v W => Own W 0 v (padTo S.safe sl) ∧ w1.grownBy W (Value.slice fo fl fc).ownBlock ∧ (v.ownBlock = (Value.slice fo fl fc).ownBlock ∨ v.ownBlock = some w1.heap.size)) d 2 0 r w5 := hI.at_ 0 (.inl rfl) (.inr ⟨by decide, h1 10 (by decide) (by decide +kernel)⟩)
      have hw : w5 = w1 := hA
      subst hw
      have c1 := HM.out.c1
      exact doesZ_read (v := .slice so sl sc) (by decide) rfl (by unfold execOp; simp only [e11]; go_simp) hI rfl
    · intro a w5 r hF hI hns hri h1 h2 hd
      have e12 : a.eval (.tmp 12) = .slice so sl sc := hd 8 (by decide +kernel)
      have f12 : a.tmps[12]?.getD undef = .slice so sl sc := by rw [← Array.getD_eq_getD_getElem?]; exact e12
      exact doesZ_read (v := .int .i64 (sl : Int)) (by decide) rfl (by unfold execOp; go_simp) hI rfl
    · intro a w5 r hF hI hns hri h1 h2 hd
      have e8 : a.eval (.tmp 8) = .slice fo fl fc := hd 4 (by decide +kernel)
      have e13 : a.eval (.tmp 13) = .int .i64 (sl : Int) := hd 9 (by decide +kernel)
      have hA : CS 10 w1 (fun v W => Own W 0 v (padTo S.safe sl) ∧ w1.grownBy W (Value.slice fo fl fc).ownBlock ∧ (v.ownBlock = (Value.slice fo fl fc).ownBlock ∨ v.ownBlock = some w1.heap.size)) d 2 0 r w5 := hI.at_ 0 (.inl rfl) (.inr ⟨by decide, hri⟩)
      have hw : w5 = w1 := hA
      subst hw
      exact doesZ_call (by decide) rfl (ex_call (vs := #[.slice fo fl fc, .int .i64 (sl : Int)]) rfl (by simp only [List.map_toArray, List.map_cons, List.map_nil, e8, e13]) (by go_simp)) (HR.out.mono fun e w6 hh => by obtain ⟨v, he, hl⟩ := hh; exact ⟨v, he, hI.next 0 10 v rfl (by decide) (.inl rfl) hri (by decide) (⟨v, Told.set_same _ _ _, hl⟩), v, Told.set_same _ _ _, rfl⟩)
    · intro a w5 r hF hI hns hri h1 h2 hd
      have e4 : a.eval (.tmp 4) = .pointer (some ⟨d, 0, none⟩) := hd 0 (by decide +kernel)
      exact doesZ_read (v := .pointer (some ⟨d, 0, none⟩)) (by decide) rfl (ex_nilCheck rfl e4) hI rfl
    · intro a w5 r hF hI hns hri h1 h2 hd
      have e15 : a.eval (.tmp 15) = .pointer (some ⟨d, 0, none⟩) := hd 11 (by decide +kernel)
      exact doesZ_read (v := .pointer (some ⟨d, 2, none⟩)) (by decide) rfl (ex_fieldAddr rfl e15 (by go_simp)) hI rfl
    · intro a w5 r hF hI hns hri h1 h2 hd
      have e16 : a.eval (.tmp 16) = .pointer (some ⟨d, 2, none⟩) := hd 12 (by decide +kernel)
      obtain ⟨u14, hu14, e14⟩ : ∃ u, r 10 = some u ∧ a.eval (.tmp 14) = u := hd 10 (by decide +kernel)
      have hA : CS 10 w1 (fun v W => Own W 0 v (padTo S.safe sl) ∧ w1.grownBy W (Value.slice fo fl fc).ownBlock ∧ (v.ownBlock = (Value.slice fo fl fc).ownBlock ∨ v.ownBlock = some w1.heap.size)) d 2 1 r w5 := hI.at_ 1 (.inr ⟨by decide, h2 10 (by decide) (by decide +kernel)⟩) (.inr ⟨by decide, hri⟩)
      obtain ⟨v0, hv0, hp⟩ := hA
      obtain rfl : v0 = u14 := Option.some.inj (hv0.symm.trans hu14)
      obtain ⟨ho, hg, hk⟩ := hp
      obtain ⟨va, vc, rfl, _⟩ := ho.rd.shape
      have hb := HM.out.blk.grown hg (fun e => HM.out.nf e.symm)
      exact doesZ_store (by decide) rfl 33 (.tmp 16) (.tmp 14) rfl d 2 e16 (.slice va _ vc) e14 rfl rfl 58 (dvc S (.slice so sl sc) (.slice fo fl fc) lv t) hb (show 2 < 9 by omega) (by kernel_rfl) rfl (fun v => hI.next 1 13 v rfl (by decide) (.inr ⟨by decide, h2 10 (by decide) (by decide +kernel)⟩) hri (by decide) (⟨_, _, (Told.set_ne (by decide)).trans hv0, ⟨ho, hg, hk⟩, rfl⟩))
  · intro vs r w5 hI hS hv
    obtain ⟨v, W, _, ⟨o1, g1, k1⟩, hw5⟩ := hI.at_ 2 (.inr ⟨by decide, hS 13 (by decide)⟩) (.inl rfl)
    have m1 := HM.out.safeTo o1 g1 (newer k1)
    rw [← hw5] at m1
    obtain ⟨va, vc, rfl, hvc⟩ := o1.rd.shape
    have hlen : (padTo S.safe sl).length = sl := by rw [padTo_len, ← HFL.out]; omega
    rw [hlen] at m1 hvc
    have M1 := Lib.hid m1.1
    have V1 := Lib.hid (show Move w (Blks d (.slice so sl sc) (.slice fo fl fc) lv) w5 (Blks d (.slice so sl sc) (.slice va sl vc) lv) from (Move.below BD.out).trans m1.2)
    have HLEN := Lib.hid hlen
    have HVC := Lib.hid hvc
    have HSC := Lib.hid hsc
    clear hI hS hv o1 g1 k1 hw5 m1 hlen HR HM BD HW1 hsc hfc
    simp only [putOps, Act.put, List.setIfInBounds_toArray, List.set_cons_zero, List.set_cons_succ]
    obtain ⟨lo1, lc, hlv, _⟩ := (owned_rd M1.out.loose).shape
    obtain ⟨n, hn⟩ : ∃ n, n = S.loose.length := ⟨_, rfl⟩
    have hlv2 : lv = .slice lo1 n lc := by rw [hn]; exact hlv
    have HN := Lib.hid hn
    have hnb : n ≤ 34359738368 := by rw [hn]; exact hll
    have c3 := M1.out.c3
    clear hn hlv
    subst hlv2
    go_wp2_with fail
    go_loopw [22] (fun i wr => ∃ k : Nat, k ≤ n ∧ i = .int .i64 (k : Int) ∧ ∃ C, C.length = sl ∧ (∀ j, j < sl → (∀ x ∈ S.loose.drop k, x.at_ / 512 ≠ j / 512) → gb C j = gb S.seen j) ∧ Mem wr d { S with safe := C } (.slice so sl sc) (.slice va sl vc) (.slice lo1 n lc) t ∧ Move w (Blks d (.slice so sl sc) (.slice fo fl fc) (.slice lo1 n lc)) wr (Blks d (.slice so sl sc) (.slice va sl vc) (.slice lo1 n lc))) (fun i _ => n - (intOf i).toNat)
    case atStart =>
      refine ⟨0, Nat.zero_le _, rfl, padTo S.safe sl, HLEN.out, fun j hj hx => ?_, M1.out, V1.out⟩
      rw [gb_padTo]
      exact HI.out.same j (by rw [← HSL.out]; exact hj) hx
    case round =>
      clear M1 V1 HLEN c3
      obtain ⟨k, hk, rfl, C, hcl, hcov, hm, hv⟩ := hrel
      have c3 := hm.c3
      have MR := Lib.hid hm
      have VR := Lib.hid hv
      have HCOV := Lib.hid hcov
      have HCL := Lib.hid hcl
      clear hm hv hcov hcl
      by_cases hk2 : k < n
      · have hkl : k < S.loose.length := by rw [← HN.out]; exact hk2
        obtain ⟨x, hx⟩ : ∃ x, S.loose[k]? = some x := ⟨S.loose[k], List.getElem?_eq_getElem hkl⟩
        have hxm := List.mem_of_getElem? hx
        obtain ⟨hwx, hxs⟩ := HI.out.wr x hxm
        rw [← HSL.out] at hxs
        have hrd := owned_rd MR.out.loose
        rw [show ({ S with safe := C } : DS).loose = S.loose from rfl, ← HN.out] at hrd
        obtain ⟨lb, lo, hlo, hcs⟩ := hrd.at_ (by decide) k hk2
        subst hlo
        have cx0 : wr.cell? ⟨lb, lo + k * 514, none⟩ = some (.int .i64 ((x.at_ / 512 : Nat) : Int)) := by
          have := hcs 0 _ (by decide) ((lwcs_get S.loose (fun y hy => (HI.out.wr y hy).1.len) k x hx 0 (by decide)).trans rfl)
          exact this
        obtain ⟨q, hq⟩ : ∃ q, q = x.at_ / 512 := ⟨_, rfl⟩
        obtain ⟨p, hp⟩ : ∃ p, p = x.at_ := ⟨_, rfl⟩
        have hpq : p = q * 512 := by have := hwx.at_; omega
        have hpl : p < sl := by have := hwx.size; have := hwx.pos; omega
        have HWQ := Lib.hid (show IntKind.i64.wrap ((q : Int) * 512) = (p : Int) by rw [IntKind.wrap_i64]; omega)
        have hwq := HWQ.out
        have HWP := Lib.hid (show IntKind.i64.wrap ((p : Int) + 512) = (p : Int) + 512 by rw [IntKind.wrap_i64]; omega)
        rw [← hq] at cx0
        have hkz : (k : Int) < (n : Int) := by omega
        have hkb : k ≤ 34359738368 := by omega
        have HXP := Lib.hid (show p = x.at_ from hp)
        have HX := Lib.hid hx
        have HPM := Lib.hid (show p % 512 = 0 by omega)
        have HPL := Lib.hid hpl
        clear hcs hrd hwx hxm hx hq hp hpq hxs
        go_upto_region 5 with fail
        obtain ⟨w2, hw2⟩ : ∃ w2, w2 = wr.drew := ⟨_, rfl⟩
        have M2 := Lib.hid (show Mem w2 d { S with safe := C } (.slice so sl sc) (.slice va sl vc) (.slice (some ⟨lb, lo, none⟩) n lc) t by rw [hw2]; exact MR.out.below (Below.refl _ _).drew)
        have V2 := Lib.hid (show Move wr (Blks d (.slice so sl sc) (.slice va sl vc) (.slice (some ⟨lb, lo, none⟩) n lc)) w2 (Blks d (.slice so sl sc) (.slice va sl vc) (.slice (some ⟨lb, lo, none⟩) n lc)) by rw [hw2]; exact Move.below (Below.refl _ _).drew)
        obtain ⟨sb, rfl⟩ : ∃ b, so = some ⟨b, 0, none⟩ := own_at (show Own w2 0 (.slice so sl sc) S.seen from M2.out.seen) (by rw [← HSL.out]; omega)
        obtain ⟨fb, rfl⟩ : ∃ b, va = some ⟨b, 0, none⟩ := own_at (show Own w2 0 (.slice va sl vc) C from M2.out.safe) (by rw [HCL.out]; omega)
        obtain ⟨hh, hhd⟩ : ∃ h, h = min (p + 512) sl := ⟨_, rfl⟩
        have HMN := Lib.hid (show min ((p : Int) + 512) (sl : Int) = (hh : Int) by omega)
        have HPS := Lib.hid (show p ≤ sl by omega)
        have HPH := Lib.hid (show p ≤ hh by omega)
        have HHS := Lib.hid (show hh ≤ sc by have := HSC.out; omega)
        obtain ⟨m, hmd⟩ : ∃ m, m = min 512 (sl - p) := ⟨_, rfl⟩
        have hsl3 := HSL.out
        have HSEG := Lib.hid (show ((S.seen.take hh).drop p).take m = (S.seen.drop p).take m by
          rw [List.drop_take, List.take_take, Nat.min_eq_left (by omega)])
        have HRD := Lib.hid (show Rd w2 (.slice (some ⟨sb, p, none⟩) (hh - p) (sc - p)) ((S.seen.take hh).drop p) by
          have h1 := (M2.out.seen.rd.drop p (by show p ≤ S.seen.length; omega)).take (hh - p) (by rw [List.length_drop]; show hh - p ≤ S.seen.length - p; omega)
          rw [if_neg (by have := HSC.out; omega)] at h1
          rw [List.drop_take]
          have e2 : Option.map (fun x : Addr => x.add p) (some ⟨sb, 0, none⟩) = some ⟨sb, p, none⟩ := by rw [Option.map_some, Addr.add_lit, Nat.zero_add]
          rw [e2] at h1
          exact h1)
        have HMM := Lib.hid (show m = min ((S.seen.take hh).drop p).length (sl - p) by rw [List.length_drop, List.length_take]; omega)
        have HMD := Lib.hid hmd
        have HW2 := Lib.hid hw2
        clear hw2 hhd hmd hsl3
        refine wp_region_z (by kernel_rfl) [20] (by kernel_rfl) (by kernel_rfl) (Stg [20] (CP w2 (.slice (some ⟨fb, 0, none⟩) sl vc) (C.take p ++ ((S.seen.take hh).drop p).take m ++ C.drop (p + m)))) [.pre (.pointer (some ⟨d, 0, none⟩)), .pre (.pointer (some ⟨d, 0, none⟩)), .pre (.pointer (some ⟨d, 2, none⟩)), .pre (.slice (some ⟨fb, 0, none⟩) sl vc), .pre (.int .i64 (p : Int)), .pre (.slice (some ⟨fb, p, none⟩) (sl - p) (vc - p)), .pre (.pointer (some ⟨d, 0, none⟩)), .pre (.pointer (some ⟨d, 0, none⟩)), .pre (.pointer (some ⟨d, 1, none⟩)), .pre (.slice (some ⟨sb, 0, none⟩) sl sc), .pre (.int .i64 (p : Int)), .pre (.int .i64 (p : Int)), .pre (.int .i64 ((p : Int) + 512)), .pre (.pointer (some ⟨d, 0, none⟩)), .pre (.pointer (some ⟨d, 0, none⟩)), .pre (.pointer (some ⟨d, 1, none⟩)), .pre (.slice (some ⟨sb, 0, none⟩) sl sc), .pre (.int .i64 (sl : Int)), .pre (.int .i64 (hh : Int)), .pre (.slice (some ⟨sb, p, none⟩) (hh - p) (sc - p)), .any] (fun i hi hq => by
                  simp only [List.mem_cons, List.mem_nil_iff, or_false] at hi
                  rcases hi with rfl
                  · rfl) (Stg.zero (show _ = w2 from HW2.out.symm)) ?_ ?_
        · refine ⟨?_, ?_, ?_, ?_, ?_, ?_, ?_, ?_, ?_, ?_, ?_, ?_, ?_, ?_, ?_, ?_, ?_, ?_, ?_, ?_, ?_, trivial⟩
          · intro a w5 r hF hI hns hri h1 h2 hd
            have e0 : a.eval (.tmp 0) = .pointer (some ⟨d, 0, none⟩) := hF 0 (by decide +kernel)
            exact doesZ_read (v := .pointer (some ⟨d, 0, none⟩)) (by decide) rfl (ex_move rfl e0) hI rfl
          · intro a w5 r hF hI hns hri h1 h2 hd
            have e34 : a.eval (.tmp 34) = .pointer (some ⟨d, 0, none⟩) := hd 0 (by decide +kernel)
            exact doesZ_read (v := .pointer (some ⟨d, 0, none⟩)) (by decide) rfl (ex_nilCheck rfl e34) hI rfl
          · intro a w5 r hF hI hns hri h1 h2 hd
            have e35 : a.eval (.tmp 35) = .pointer (some ⟨d, 0, none⟩) := hd 1 (by decide +kernel)
            exact doesZ_read (v := .pointer (some ⟨d, 2, none⟩)) (by decide) rfl (ex_fieldAddr rfl e35 (by go_simp)) hI rfl
          · intro a w5 r hF hI hns hri h1 h2 hd
            have e36 : a.eval (.tmp 36) = .pointer (some ⟨d, 2, none⟩) := hd 2 (by decide +kernel)
            have hA : CP w2 (.slice (some ⟨fb, 0, none⟩) sl vc) (C.take p ++ ((S.seen.take hh).drop p).take m ++ C.drop (p + m)) 0 r w5 := hI.at_ 0 (.inl rfl) (.inr ⟨by decide, h1 20 (by decide) (by decide +kernel)⟩)
            have hw : w5 = w2 := hA
            subst hw
            have c2 := M2.out.c2
            exact doesZ_read (v := .slice (some ⟨fb, 0, none⟩) sl vc) (by decide) rfl (by unfold execOp; simp only [e36]; go_simp) hI rfl
          · intro a w5 r hF hI hns hri h1 h2 hd
            have e3 : a.eval (.tmp 3) = .int .i64 (p : Int) := hF 3 (by decide +kernel)
            exact doesZ_read (v := .int .i64 (p : Int)) (by decide) rfl (ex_move rfl e3) hI rfl
          · intro a w5 r hF hI hns hri h1 h2 hd
            have e37 : a.eval (.tmp 37) = .slice (some ⟨fb, 0, none⟩) sl vc := hd 3 (by decide +kernel)
            have e38 : a.eval (.tmp 38) = .int .i64 (p : Int) := hd 4 (by decide +kernel)
            exact doesZ_read (v := .slice (some ⟨fb, p, none⟩) (sl - p) (vc - p)) (by decide) rfl (ex_cut_l rfl e37 e38 HPS.out (Nat.lt_of_lt_of_le HPL.out HVC.out)) hI rfl
          · intro a w5 r hF hI hns hri h1 h2 hd
            have e0 : a.eval (.tmp 0) = .pointer (some ⟨d, 0, none⟩) := hF 0 (by decide +kernel)
            exact doesZ_read (v := .pointer (some ⟨d, 0, none⟩)) (by decide) rfl (ex_move rfl e0) hI rfl
          · intro a w5 r hF hI hns hri h1 h2 hd
            have e40 : a.eval (.tmp 40) = .pointer (some ⟨d, 0, none⟩) := hd 6 (by decide +kernel)
            exact doesZ_read (v := .pointer (some ⟨d, 0, none⟩)) (by decide) rfl (ex_nilCheck rfl e40) hI rfl
          · intro a w5 r hF hI hns hri h1 h2 hd
            have e41 : a.eval (.tmp 41) = .pointer (some ⟨d, 0, none⟩) := hd 7 (by decide +kernel)
            exact doesZ_read (v := .pointer (some ⟨d, 1, none⟩)) (by decide) rfl (ex_fieldAddr rfl e41 (by go_simp)) hI rfl
          · intro a w5 r hF hI hns hri h1 h2 hd
            have e42 : a.eval (.tmp 42) = .pointer (some ⟨d, 1, none⟩) := hd 8 (by decide +kernel)
            have hA : CP w2 (.slice (some ⟨fb, 0, none⟩) sl vc) (C.take p ++ ((S.seen.take hh).drop p).take m ++ C.drop (p + m)) 0 r w5 := hI.at_ 0 (.inl rfl) (.inr ⟨by decide, h1 20 (by decide) (by decide +kernel)⟩)
            have hw : w5 = w2 := hA
            subst hw
            have c1 := M2.out.c1
            exact doesZ_read (v := .slice (some ⟨sb, 0, none⟩) sl sc) (by decide) rfl (by unfold execOp; simp only [e42]; go_simp) hI rfl
          · intro a w5 r hF hI hns hri h1 h2 hd
            have e3 : a.eval (.tmp 3) = .int .i64 (p : Int) := hF 3 (by decide +kernel)
            exact doesZ_read (v := .int .i64 (p : Int)) (by decide) rfl (ex_move rfl e3) hI rfl
          · intro a w5 r hF hI hns hri h1 h2 hd
            have e3 : a.eval (.tmp 3) = .int .i64 (p : Int) := hF 3 (by decide +kernel)
            exact doesZ_read (v := .int .i64 (p : Int)) (by decide) rfl (ex_move rfl e3) hI rfl
          · intro a w5 r hF hI hns hri h1 h2 hd
            have e45 : a.eval (.tmp 45) = .int .i64 (p : Int) := hd 11 (by decide +kernel)
            have hwp := HWP.out
            exact doesZ_read (v := .int .i64 ((p : Int) + 512)) (by decide) rfl (ex_binOp rfl e45 rfl (by go_simp) (by go_simp)) hI rfl
          · intro a w5 r hF hI hns hri h1 h2 hd
            have e0 : a.eval (.tmp 0) = .pointer (some ⟨d, 0, none⟩) := hF 0 (by decide +kernel)
            exact doesZ_read (v := .pointer (some ⟨d, 0, none⟩)) (by decide) rfl (ex_move rfl e0) hI rfl
          · intro a w5 r hF hI hns hri h1 h2 hd
            have e47 : a.eval (.tmp 47) = .pointer (some ⟨d, 0, none⟩) := hd 13 (by decide +kernel)
            exact doesZ_read (v := .pointer (some ⟨d, 0, none⟩)) (by decide) rfl (ex_nilCheck rfl e47) hI rfl
          · intro a w5 r hF hI hns hri h1 h2 hd
            have e48 : a.eval (.tmp 48) = .pointer (some ⟨d, 0, none⟩) := hd 14 (by decide +kernel)
            exact doesZ_read (v := .pointer (some ⟨d, 1, none⟩)) (by decide) rfl (ex_fieldAddr rfl e48 (by go_simp)) hI rfl
          · intro a w5 r hF hI hns hri h1 h2 hd
            have e49 : a.eval (.tmp 49) = .pointer (some ⟨d, 1, none⟩) := hd 15 (by decide +kernel)
            have hA : CP w2 (.slice (some ⟨fb, 0, none⟩) sl vc) (C.take p ++ ((S.seen.take hh).drop p).take m ++ C.drop (p + m)) 0 r w5 := hI.at_ 0 (.inl rfl) (.inr ⟨by decide, h1 20 (by decide) (by decide +kernel)⟩)
            have hw : w5 = w2 := hA
            subst hw
            have c1 := M2.out.c1
            exact doesZ_read (v := .slice (some ⟨sb, 0, none⟩) sl sc) (by decide) rfl (by unfold execOp; simp only [e49]; go_simp) hI rfl
          · intro a w5 r hF hI hns hri h1 h2 hd
            have e50 : a.eval (.tmp 50) = .slice (some ⟨sb, 0, none⟩) sl sc := hd 16 (by decide +kernel)
            have f50 : a.tmps[50]?.getD undef = .slice (some ⟨sb, 0, none⟩) sl sc := by rw [← Array.getD_eq_getD_getElem?]; exact e50
            exact doesZ_read (v := .int .i64 (sl : Int)) (by decide) rfl (by unfold execOp; go_simp) hI rfl
          · intro a w5 r hF hI hns hri h1 h2 hd
            have e46 : a.eval (.tmp 46) = .int .i64 ((p : Int) + 512) := hd 12 (by decide +kernel)
            have e51 : a.eval (.tmp 51) = .int .i64 (sl : Int) := hd 17 (by decide +kernel)
            exact doesZ_read (v := .int .i64 (hh : Int)) (by decide) rfl (by rw [← HMN.out]; exact ex_min rfl e46 e51) hI rfl
          · intro a w5 r hF hI hns hri h1 h2 hd
            have e43 : a.eval (.tmp 43) = .slice (some ⟨sb, 0, none⟩) sl sc := hd 9 (by decide +kernel)
            have e44 : a.eval (.tmp 44) = .int .i64 (p : Int) := hd 10 (by decide +kernel)
            have e52 : a.eval (.tmp 52) = .int .i64 (hh : Int) := hd 18 (by decide +kernel)
            exact doesZ_read (v := .slice (some ⟨sb, p, none⟩) (hh - p) (sc - p)) (by decide) rfl (ex_cut_lh rfl e43 e44 e52 HPH.out HHS.out (Nat.lt_of_lt_of_le HPL.out HSC.out)) hI rfl
          · intro a w5 r hF hI hns hri h1 h2 hd
            have e39 : a.eval (.tmp 39) = .slice (some ⟨fb, p, none⟩) (sl - p) (vc - p) := hd 5 (by decide +kernel)
            have e53 : a.eval (.tmp 53) = .slice (some ⟨sb, p, none⟩) (hh - p) (sc - p) := hd 19 (by decide +kernel)
            have hA : CP w2 (.slice (some ⟨fb, 0, none⟩) sl vc) (C.take p ++ ((S.seen.take hh).drop p).take m ++ C.drop (p + m)) 0 r w5 := hI.at_ 0 (.inl rfl) (.inr ⟨by decide, hri⟩)
            have hw : w5 = w2 := hA
            subst hw
            exact doesZ_copy (by decide) rfl (.tmp 39) (.tmp 53) 33 33 rfl Try.underlying33 0 (.slice (some ⟨fb, 0, none⟩) sl vc) C M2.out.safe p (sl - p) (vc - p) (some ⟨fb, p, none⟩) e39 _ e53 _ HRD.out (by rw [HCL.out]) m HMM.out (fun g hg _ => by have : fb = g := Option.some.inj hg; rw [this]) (fun w' o' g' => ⟨hI.next 0 20 _ rfl (by decide) (.inl rfl) hri (by decide) ⟨o', g'⟩, trivial⟩)
        · intro vs r w5 hI hS hv
          obtain ⟨o1, g1⟩ := hI.at_ 1 (.inr ⟨by decide, hS 20 (by decide)⟩) (.inl rfl)
          rw [HSEG.out] at o1
          have mi := M2.out.safeIn o1 g1
          have cs := cover_step S.seen C p m HPM.out (by rw [HCL.out]; exact HSL.out) (by rw [HMD.out, HSL.out]) (by rw [← HSL.out]; exact HPS.out)
          rw [← HSL.out] at cs
          obtain ⟨C', hC'⟩ : ∃ C', C' = C.take p ++ (S.seen.drop p).take m ++ C.drop (p + m) := ⟨_, rfl⟩
          rw [← hC'] at mi cs
          have MI := Lib.hid mi.1
          have VI := Lib.hid ((VR.out.trans V2.out).trans mi.2)
          have CSL := Lib.hid cs.1
          have CSG := Lib.hid cs.2
          clear hI hS hv o1 g1 mi cs hC'
          simp only [putOps, Act.put, List.setIfInBounds_toArray, List.set_cons_zero, List.set_cons_succ]
          go_wp2_with fail
          go_roundw
          case rel =>
            refine ⟨k + 1, by omega, by go_num, C', CSL.out, fun j hj hx => ?_, MI.out, VI.out⟩
            rw [CSG.out j hj]
            split
            · rfl
            · rename_i hne
              refine HCOV.out j hj (fun y hy => ?_)
              rw [List.drop_eq_getElem_cons hkl] at hy
              rcases List.mem_cons.1 hy with rfl | hy
              · have e1 : S.loose[k] = x := by have := HX.out; rw [List.getElem?_eq_getElem hkl] at this; exact Option.some.inj this
                rw [e1, ← HXP.out]; exact fun q => hne q.symm
              · exact hx y hy
          case measure => simp [intOf]; omega
      · obtain rfl : k = n := by omega
        have hkz : ¬ ((k : Int) < (k : Int)) := by omega
        have hCS : C = S.seen := gbl_ext (by rw [HCL.out]; exact HSL.out) (fun j hj => HCOV.out j (by rw [← HCL.out]; exact hj) (fun y hy => by rw [List.drop_eq_nil_of_le (by rw [← HN.out]; exact Nat.le_refl _)] at hy; cases hy))
        have ml := MR.out.looseNil
        have ML := Lib.hid (show Gone w d (.slice so sl sc) (.slice fo fl fc) (.slice lo1 k lc) (synced S) _ from ⟨_, _, _, _, by rw [hCS] at ml; exact ml.1, VR.out.trans ml.2⟩)
        have f3 := MR.out.blk.free 3
        clear ml hCS
        have HQ := Lib.hid (show Gone w d (.slice so S.seen.length sc) (.slice fo S.safe.length fc) (.slice lo1 k lc) (synced S) _ from by rw [← HSL.out, ← HFL.out]; exact ML.out)
        go_wp2_with fail
        exact bodyPost_end (results_none rfl _ _ _) rfl ⟨rfl, HQ.out⟩
end Go.Proofs.Ytipdcocliefppaa
/- A Start of the program's device: contracts. Written by gen_devpstart.py. Own work. -/
namespace Go.Proofs.Ytipdcocliefppaa
open Go.ChangeShapes Go.WideShapes Go.ChangeAt Go.RowKit
open DM
/-- One call. -/
def C1 (c : Nat) (w0 : World) (P : Value → World → Prop) : Nat → Told → World → Prop
  | 0, _, w => w = w0
  | _, r, w => ∃ v, r c = some v ∧ P v w
/-- The cells of a loose write at a plain address. -/
def Lw (w : World) (b off : Nat) (x : LW) : Prop := ∀ i u, i < 514 → (lwc x)[i]? = some u → w.cell? ⟨b, off + i, none⟩ = some u
theorem Lw.grown {w w' : World} {b off : Nat} {x : LW} {row : Option Nat} (h : Lw w b off x) (g : w.grownBy w' row) (hne : some b ≠ row) : Lw w' b off x := fun i u hi hu => by
  have h1 := h i u hi hu
  have hlt := World.block_lt_of_cell? w _ h1
  rw [World.cell?_of_block (w := w) (g.block b hlt hne)]; exact h1
theorem Lw.rd {w : World} {b off : Nat} {x : LW} (h : Lw w b off x) (hb : ∀ k, gb x.bytes k < 256) (hl : x.bytes.length ≤ 512) : Rd w (.slice (some ⟨b, off + 2, none⟩) x.bytes.length 512) x.bytes := by
  refine ⟨hb, by omega, .inr ⟨_, _, rfl, hl, fun j hj => ?_⟩⟩
  rw [Addr.add_lit, Nat.add_assoc]
  refine h (2 + j) _ (by omega) ?_
  unfold lwc
  rw [Nat.add_comm 2 j, List.getElem?_cons_succ, List.getElem?_cons_succ]
  unfold row8
  rw [List.getElem?_map, List.getElem?_eq_getElem (by rw [padTo_len]; omega)]
  have e := gb_padTo x.bytes 512 j
  unfold gb at e
  rw [List.getD_eq_getElem?_getD, List.getElem?_eq_getElem (by rw [padTo_len]; omega)] at e
  simp only [Option.map_some, Option.getD_some] at e ⊢
  rw [e]; rfl
theorem pstays_any (va : Option Addr) (vc : Nat) (y : List Nat) (k : Nat) (w : World) (hv : Rd w (.slice va y.length vc) y) (hk : k ≤ 34359738368) : Calls Try.prog 39 #[.slice va y.length vc, .int .i64 (k : Int)] w fun e w' => e = .returned (.bool (bit y k)) ∧ w' = w := by
  by_cases h8 : k / 8 < y.length
  · obtain ⟨vb, vo, rfl, cz⟩ := rd_plain hv (k / 8) h8
    have hzb := hv.byte (k / 8)
    obtain ⟨Z, hZ⟩ : ∃ Z, Z = gb y (k / 8) := ⟨_, rfl⟩
    obtain ⟨q, hq⟩ : ∃ q, q = k / 8 := ⟨_, rfl⟩
    obtain ⟨r, hr⟩ : ∃ r, r = k % 8 := ⟨_, rfl⟩
    have HB := Lib.hid (show bit y k = (decide (q < y.length) && (Z / 2 ^ r % 2 == 1)) by unfold bit; rw [← hq, ← hr, hZ, hq])
    rw [← hZ] at cz hzb
    rw [← hq] at cz h8
    have hq2 : (k : Int) / 8 = (q : Int) := by omega
    have hr2 : (k : Int) % 8 = (r : Int) := by omega
    have hr8 : r < 8 := by omega
    have h8z : (q : Int) < (y.length : Int) := by omega
    have hbt := keep_bit Z r hzb
    clear hZ hq hr hv
    rw [HB.out]
    by_cases hb1 : Z / 2 ^ r % 2 = 1
    · rw [hb1] at hbt
      have hcond : (bits BinOp.and IntKind.u8 ((Z : Int) / 2 ^ r) 1 == 1) = true := by rw [hbt]; rfl
      have HE := Lib.hid (show (decide (q < y.length) && (Z / 2 ^ r % 2 == 1)) = true by rw [hb1]; simp [h8])
      rw [HE.out]
      go_enter Try.func39, Try.ntmps39
      go_wp2_with fail
      go_ret
      exact ⟨rfl, rfl⟩
    · have hb0 : Z / 2 ^ r % 2 = 0 := by omega
      rw [hb0] at hbt
      have hcond : (bits BinOp.and IntKind.u8 ((Z : Int) / 2 ^ r) 1 == 1) = false := by rw [hbt]; rfl
      have HE := Lib.hid (show (decide (q < y.length) && (Z / 2 ^ r % 2 == 1)) = false by rw [hb0]; simp)
      rw [HE.out]
      go_enter Try.func39, Try.ntmps39
      go_wp2_with fail
      go_ret
      exact ⟨rfl, rfl⟩
  · have HB := Lib.hid (show bit y k = false by unfold bit; rw [decide_eq_false h8]; rfl)
    obtain ⟨q, hq⟩ : ∃ q, q = k / 8 := ⟨_, rfl⟩
    have hq2 : (k : Int) / 8 = (q : Int) := by omega
    have h8z : ¬ (q : Int) < (y.length : Int) := by omega
    clear hv hq
    rw [HB.out]
    go_enter Try.func39, Try.ntmps39
    go_wp2_with fail
    go_ret
    exact ⟨rfl, rfl⟩
set_option maxRecDepth 100000 in
set_option maxHeartbeats 1000000 in
theorem pinto_any (w : World) (b off : Nat) (x : LW) (hx : Wr x) (hxb : ∀ k, gb x.bytes k < 256) (hxs : x.size ≤ 16777216) (hlw : Lw w b off x) (v : Value) (f : List Nat) (ho : Own w 0 v f) (hf : f.length ≤ 16777216) (hne : v.ownBlock ≠ some b) :
    Calls Try.prog 40 #[.pointer (some ⟨b, off, none⟩), v] w fun e w' => ∃ v', e = .returned v' ∧ Own w' 0 v' (laid f x.at_ x.bytes) ∧ w.grownBy w' v.ownBlock ∧ Newer v' v w.heap.size := by
  obtain ⟨fo, fc, rfl, hfc⟩ := ho.rd.shape
  obtain ⟨fl, hfl⟩ : ∃ n, n = f.length := ⟨_, rfl⟩
  obtain ⟨q, hq⟩ : ∃ q, q = x.at_ / 512 := ⟨_, rfl⟩
  obtain ⟨p, hp⟩ : ∃ p, p = x.at_ := ⟨_, rfl⟩
  obtain ⟨m, hm⟩ : ∃ n, n = x.bytes.length := ⟨_, rfl⟩
  have hpos := hx.pos
  have hlen := hx.len
  have hsize := hx.size
  have hpq : p = q * 512 := by have := hx.at_; omega
  have HQ := Lib.hid (show (lwc x)[0]? = some (.int .i64 (q : Int)) by rw [hq]; rfl)
  have HMZ := Lib.hid (show (lwc x)[1]? = some (.int .i64 (m : Int)) by rw [hm]; rfl)
  have hbl : b < w.heap.size := World.block_lt_of_cell? w _ (hlw 0 _ (by decide) HQ.out)
  have hpb : p ≤ 16777216 := by omega
  have HWQ := Lib.hid (show IntKind.i64.wrap ((q : Int) * 512) = (p : Int) by rw [IntKind.wrap_i64]; omega)
  have HM5 := Lib.hid (show m ≤ 512 by omega)
  have HPB := Lib.hid hpb
  rw [← hfl] at ho hfc hne ⊢
  rw [← hp]
  have HO := Lib.hid ho
  have HNE := Lib.hid (show some b ≠ (Value.slice fo fl fc).ownBlock from fun e => hne e.symm)
  have HBN := Lib.hid (show x.bytes ≠ [] from fun e => by rw [e] at hpos; exact absurd hpos (by decide))
  have HXB := Lib.hid hxb
  have HMB := Lib.hid hm
  have HFL := Lib.hid (show f.length ≤ 16777216 from hf)
  have HLW0 := Lib.hid hlw
  clear hlw ho hne hxb hm hx hxs hf hbl hq hp hfl hpos hlen hsize hpq hpb
  go_enter Try.func40, Try.ntmps40
  go_upto_region 1 with fail
  obtain ⟨w1, hw1⟩ : ∃ w1, w1 = w.drew := ⟨_, rfl⟩
  have HW1 := Lib.hid hw1
  have GD := Lib.hid (show w.grownBy w1 (Value.slice fo fl fc).ownBlock by rw [hw1]; exact grown_of_below (Below.refl _ _).drew _)
  have HLW := Lib.hid (HLW0.out.grown GD.out HNE.out)
  have HC0 := Lib.hid (show w1.cell? ⟨b, off, none⟩ = some (.int .i64 (q : Int)) from HLW.out 0 _ (by decide) HQ.out)
  have HC1 := Lib.hid (HLW.out 1 _ (by decide) HMZ.out)
  have HO1 := Lib.hid (show Own w1 0 (.slice fo fl fc) f by rw [hw1]; exact HO.out.below (Below.refl _ _).drew)
  have HS1 := Lib.hid (show w1.heap.size = w.heap.size by rw [hw1]; rfl)
  have HL := Lib.hid (show Calls Try.prog 41 #[.slice fo fl fc, .int .i64 (p : Int), .slice (some ⟨b, off + 2, none⟩) m 512] w1 (fun e w' => ∃ v', e = .returned v' ∧ Own w' 0 v' (laid f p x.bytes) ∧ w1.grownBy w' (Value.slice fo fl fc).ownBlock ∧ Newer v' (.slice fo fl fc) w1.heap.size) by
    have hr := HLW.out.rd HXB.out (by rw [← HMB.out]; exact HM5.out)
    rw [← HMB.out] at hr
    exact (play_any 0 (.slice fo fl fc) f p (.slice (some ⟨b, off + 2, none⟩) m 512) x.bytes w1 HO1.out hr (fun _ j e q => HNE.out ((show some b = some j from e).trans q.symm)) (Nat.zero_le _) HPB.out (by rw [← HMB.out]; have := HM5.out; omega) (by have := HFL.out; omega)).mono fun e w' ⟨v', he, o', g', k'⟩ => ⟨v', he, by rw [lay_laid _ _ _ HBN.out] at o'; exact o', g', newer k'⟩)
  clear hw1
  refine wp_region_z (by kernel_rfl) [14] (by kernel_rfl) (by kernel_rfl) (Stg [14] (C1 14 w1 (fun v W => Own W 0 v (laid f p x.bytes) ∧ w1.grownBy W (Value.slice fo fl fc).ownBlock ∧ Newer v (.slice fo fl fc) w1.heap.size))) [.pre (.slice fo fl fc), .pre (.pointer (some ⟨b, off, none⟩)), .pre (.pointer (some ⟨b, off, none⟩)), .pre (.pointer (some ⟨b, off, none⟩)), .pre (.int .i64 (q : Int)), .pre (.int .i64 (p : Int)), .pre (.pointer (some ⟨b, off, none⟩)), .pre (.pointer (some ⟨b, off, none⟩)), .pre (.pointer (some ⟨b, off + 2, none⟩)), .pre (.pointer (some ⟨b, off, none⟩)), .pre (.pointer (some ⟨b, off, none⟩)), .pre (.pointer (some ⟨b, off + 1, none⟩)), .pre (.int .i64 (m : Int)), .pre (.slice (some ⟨b, off + 2, none⟩) m 512), .of 14 (fun u v => v = u), .of 14 (fun u v => v = u)] (fun i hi hq => by
        simp only [List.mem_cons, List.mem_nil_iff, or_false] at hi
        rcases hi with rfl
        · exact absurd hq (by decide +kernel)) (Stg.zero (show _ = w1 from HW1.out.symm)) ?_ ?_
  · refine ⟨?_, ?_, ?_, ?_, ?_, ?_, ?_, ?_, ?_, ?_, ?_, ?_, ?_, ?_, ?_, ?_, trivial⟩
    · intro a w5 r hF hI hns hri h1 h2 hd
      have e1 : a.eval (.tmp 1) = .slice fo fl fc := hF 1 (by decide +kernel)
      exact doesZ_read (v := .slice fo fl fc) (by decide) rfl (ex_move rfl e1) hI rfl
    · intro a w5 r hF hI hns hri h1 h2 hd
      have e0 : a.eval (.tmp 0) = .pointer (some ⟨b, off, none⟩) := hF 0 (by decide +kernel)
      exact doesZ_read (v := .pointer (some ⟨b, off, none⟩)) (by decide) rfl (ex_move rfl e0) hI rfl
    · intro a w5 r hF hI hns hri h1 h2 hd
      have e6 : a.eval (.tmp 6) = .pointer (some ⟨b, off, none⟩) := hd 1 (by decide +kernel)
      exact doesZ_read (v := .pointer (some ⟨b, off, none⟩)) (by decide) rfl (ex_nilCheck rfl e6) hI rfl
    · intro a w5 r hF hI hns hri h1 h2 hd
      have e7 : a.eval (.tmp 7) = .pointer (some ⟨b, off, none⟩) := hd 2 (by decide +kernel)
      exact doesZ_read (v := .pointer (some ⟨b, off, none⟩)) (by decide) rfl (ex_fieldAddr rfl e7 (by go_simp)) hI rfl
    · intro a w5 r hF hI hns hri h1 h2 hd
      have e8 : a.eval (.tmp 8) = .pointer (some ⟨b, off, none⟩) := hd 3 (by decide +kernel)
      have hA : C1 14 w1 (fun v W => Own W 0 v (laid f p x.bytes) ∧ w1.grownBy W (Value.slice fo fl fc).ownBlock ∧ Newer v (.slice fo fl fc) w1.heap.size) 0 r w5 := hI.at_ 0 (.inl rfl) (.inr ⟨by decide, h1 14 (by decide) (by decide +kernel)⟩)
      have hw : w5 = w1 := hA
      subst hw
      have cr := HC0.out
      exact doesZ_read (v := .int .i64 (q : Int)) (by decide) rfl (by unfold execOp; simp only [e8]; go_simp) hI rfl
    · intro a w5 r hF hI hns hri h1 h2 hd
      have e9 : a.eval (.tmp 9) = .int .i64 (q : Int) := hd 4 (by decide +kernel)
      have hwq := HWQ.out
      exact doesZ_read (v := .int .i64 (p : Int)) (by decide) rfl (ex_binOp rfl e9 rfl (by go_simp) (by go_simp)) hI rfl
    · intro a w5 r hF hI hns hri h1 h2 hd
      have e0 : a.eval (.tmp 0) = .pointer (some ⟨b, off, none⟩) := hF 0 (by decide +kernel)
      exact doesZ_read (v := .pointer (some ⟨b, off, none⟩)) (by decide) rfl (ex_move rfl e0) hI rfl
    · intro a w5 r hF hI hns hri h1 h2 hd
      have e11 : a.eval (.tmp 11) = .pointer (some ⟨b, off, none⟩) := hd 6 (by decide +kernel)
      exact doesZ_read (v := .pointer (some ⟨b, off, none⟩)) (by decide) rfl (ex_nilCheck rfl e11) hI rfl
    · intro a w5 r hF hI hns hri h1 h2 hd
      have e12 : a.eval (.tmp 12) = .pointer (some ⟨b, off, none⟩) := hd 7 (by decide +kernel)
      exact doesZ_read (v := .pointer (some ⟨b, off + 2, none⟩)) (by decide) rfl (ex_fieldAddr rfl e12 (by go_simp)) hI rfl
    · intro a w5 r hF hI hns hri h1 h2 hd
      have e0 : a.eval (.tmp 0) = .pointer (some ⟨b, off, none⟩) := hF 0 (by decide +kernel)
      exact doesZ_read (v := .pointer (some ⟨b, off, none⟩)) (by decide) rfl (ex_move rfl e0) hI rfl
    · intro a w5 r hF hI hns hri h1 h2 hd
      have e14 : a.eval (.tmp 14) = .pointer (some ⟨b, off, none⟩) := hd 9 (by decide +kernel)
      exact doesZ_read (v := .pointer (some ⟨b, off, none⟩)) (by decide) rfl (ex_nilCheck rfl e14) hI rfl
    · intro a w5 r hF hI hns hri h1 h2 hd
      have e15 : a.eval (.tmp 15) = .pointer (some ⟨b, off, none⟩) := hd 10 (by decide +kernel)
      exact doesZ_read (v := .pointer (some ⟨b, off + 1, none⟩)) (by decide) rfl (ex_fieldAddr rfl e15 (by go_simp)) hI rfl
    · intro a w5 r hF hI hns hri h1 h2 hd
      have e16 : a.eval (.tmp 16) = .pointer (some ⟨b, off + 1, none⟩) := hd 11 (by decide +kernel)
      have hA : C1 14 w1 (fun v W => Own W 0 v (laid f p x.bytes) ∧ w1.grownBy W (Value.slice fo fl fc).ownBlock ∧ Newer v (.slice fo fl fc) w1.heap.size) 0 r w5 := hI.at_ 0 (.inl rfl) (.inr ⟨by decide, h1 14 (by decide) (by decide +kernel)⟩)
      have hw : w5 = w1 := hA
      subst hw
      have cr := HC1.out
      exact doesZ_read (v := .int .i64 (m : Int)) (by decide) rfl (by unfold execOp; simp only [e16]; go_simp) hI rfl
    · intro a w5 r hF hI hns hri h1 h2 hd
      have e13 : a.eval (.tmp 13) = .pointer (some ⟨b, off + 2, none⟩) := hd 8 (by decide +kernel)
      have f13 : a.tmps[13]?.getD undef = .pointer (some ⟨b, off + 2, none⟩) := by rw [← Array.getD_eq_getD_getElem?]; exact e13
      have e17 : a.eval (.tmp 17) = .int .i64 (m : Int) := hd 12 (by decide +kernel)
      have f17 : a.tmps[17]?.getD undef = .int .i64 (m : Int) := by rw [← Array.getD_eq_getD_getElem?]; exact e17
      have hm5 : (m : Int) ≤ 512 := by have := HM5.out; omega
      exact doesZ_read (v := .slice (some ⟨b, off + 2, none⟩) m 512) (by decide) rfl (by unfold execOp; simp only [e13]; go_simp) hI rfl
    · intro a w5 r hF hI hns hri h1 h2 hd
      have e5 : a.eval (.tmp 5) = .slice fo fl fc := hd 0 (by decide +kernel)
      have e10 : a.eval (.tmp 10) = .int .i64 (p : Int) := hd 5 (by decide +kernel)
      have e18 : a.eval (.tmp 18) = .slice (some ⟨b, off + 2, none⟩) m 512 := hd 13 (by decide +kernel)
      have hA : C1 14 w1 (fun v W => Own W 0 v (laid f p x.bytes) ∧ w1.grownBy W (Value.slice fo fl fc).ownBlock ∧ Newer v (.slice fo fl fc) w1.heap.size) 0 r w5 := hI.at_ 0 (.inl rfl) (.inr ⟨by decide, hri⟩)
      have hw : w5 = w1 := hA
      subst hw
      exact doesZ_call (by decide) rfl (ex_call (vs := #[.slice fo fl fc, .int .i64 (p : Int), .slice (some ⟨b, off + 2, none⟩) m 512]) rfl (by simp only [List.map_toArray, List.map_cons, List.map_nil, e5, e10, e18]) (by go_simp)) (HL.out.mono fun e w6 hh => by obtain ⟨v, he, hl⟩ := hh; exact ⟨v, he, hI.next 0 14 v rfl (by decide) (.inl rfl) hri (by decide) (⟨v, Told.set_same _ _ _, hl⟩), v, Told.set_same _ _ _, rfl⟩)
    · intro a w5 r hF hI hns hri h1 h2 hd
      obtain ⟨u19, hu19, e19⟩ : ∃ u, r 14 = some u ∧ a.eval (.tmp 19) = u := hd 14 (by decide +kernel)
      exact doesZ_read (by decide) rfl (ex_assign rfl e19) hI ⟨u19, hu19, rfl⟩
  · intro vs r w5 hI hS hv
    obtain ⟨v2, hv2, o2, g2, n2⟩ := hI.at_ 1 (.inr ⟨by decide, hS 14 (by decide)⟩) (.inl rfl)
    obtain ⟨u, hu, e4⟩ : ∃ u, r 14 = some u ∧ vs 15 = u := hv 15 (by decide)
    obtain rfl : v2 = u := Option.some.inj (hv2.symm.trans hu)
    have O2 := Lib.hid o2
    have G2 := Lib.hid (only_trans GD.out g2)
    have N2 := Lib.hid (show Newer v2 (.slice fo fl fc) w.heap.size by rw [HS1.out] at n2; exact n2)
    clear hI hS hv o2 g2 n2
    simp only [putOps, Act.put, List.setIfInBounds_toArray, List.set_cons_zero, List.set_cons_succ, e4]
    go_wp2_with fail
    go_ret
    exact ⟨_, rfl, O2.out, G2.out, N2.out⟩
end Go.Proofs.Ytipdcocliefppaa
/- A Start of the program's device, whole: contract. Written by gen_devpstart2.py. Own work. -/
namespace Go.Proofs.Ytipdcocliefppaa
open Go.ChangeShapes Go.WideShapes Go.ChangeAt Go.RowKit
open DM
theorem Rd.turnF {w W : World} {F : Nat → Prop} {y : Value} {l : List Nat} (h : Rd w y l) (T : Turn F w W) (hne : 0 < l.length → ∀ g, y.ownBlock = some g → ¬ F g) : Rd W y l := by
  rcases Nat.eq_zero_or_pos l.length with q | q
  · obtain rfl := List.eq_nil_of_length_eq_zero q
    exact rd_empty h
  · exact h.keep fun g hg hlt => T.block g hlt (hne q g hg)
theorem built_fail0 : Try.prog.built 56 [] = some #[.bool false, .int .i64 0, .bool false] := by kernel_rfl
/-- Behind the last store of a Start. -/
theorem start_end {w W W3 : World} {d : Nat} {S : DS} {sv fv lv fv1 y1 : Value} {t : Bool} {C : List Nat} (m : Mem W d { S with safe := C } sv fv1 lv t) (v : Move w (Blks d sv fv lv) W (Blks d sv fv1 lv)) (b : Below W.heap.size W W3) (o : Own W3 W.heap.size y1 C) :
    Gone w d sv fv lv ⟨S.most, C, C, [], S.steps, false, false, 0, false⟩ ((((((W3.setCell ⟨d, 1, none⟩ y1).setCell ⟨d, 3, none⟩ (.slice none 0 0)).setCell ⟨d, 5, none⟩ (.bool false)).setCell ⟨d, 6, none⟩ (.bool false)).setCell ⟨d, 7, none⟩ (.int .i64 0)).setCell ⟨d, 8, none⟩ (.bool false)) := by
  have m1 := m.seenTo (o.lower (Nat.zero_le _)) (grown_of_below b _) (fun g e => .inr (o.from g e).1)
  have m2 := m1.1.looseNil
  have m3 := m2.1.field 5 (.bool false) (S' := { most := S.most, seen := C, safe := C, loose := [], steps := S.steps, down := false, told := t, after := S.after, done := S.done }) (t' := t) rfl rfl rfl rfl (fun _ => rfl)
  have m4 := m3.1.field 6 (.bool false) (S' := { most := S.most, seen := C, safe := C, loose := [], steps := S.steps, down := false, told := false, after := S.after, done := S.done }) (t' := false) rfl rfl rfl rfl (fun _ => rfl)
  have m5 := m4.1.field 7 (.int .i64 0) (S' := { most := S.most, seen := C, safe := C, loose := [], steps := S.steps, down := false, told := false, after := 0, done := S.done }) (t' := false) rfl rfl rfl rfl (fun _ => rfl)
  have m6 := m5.1.field 8 (.bool false) (S' := { most := S.most, seen := C, safe := C, loose := [], steps := S.steps, down := false, told := false, after := 0, done := false }) (t' := false) rfl rfl rfl rfl (fun _ => rfl)
  exact ⟨_, _, _, _, m6.1, v.trans (m1.2.trans (m2.2.trans (m3.2.trans (m4.2.trans (m5.2.trans m6.2)))))⟩
set_option maxRecDepth 100000 in
set_option maxHeartbeats 2000000 in
theorem pdstart_any (w : World) (d : Nat) (S : DS) (sv fv lv : Value) (t : Bool) (h : Mem w d S sv fv lv t) (hi : Inv S) (hok : Ok S) (hll : S.loose.length ≤ 34359738368) (v : Value) (y : List Nat) (hv : Rd w v y) (hne : 0 < y.length → ∀ g, v.ownBlock = some g → ¬ Blks d sv fv lv g) :
    Calls Try.prog 15 #[.pointer (some ⟨d, 0, none⟩), v] w fun e w' => e = .returned (.tuple #[]) ∧ Gone w d sv fv lv (DM.start S y) w' := by
  obtain ⟨ya, yc, rfl, _⟩ := hv.shape
  obtain ⟨lo1, lc, hlv, _⟩ := (owned_rd h.loose).shape
  obtain ⟨n, hn⟩ : ∃ n, n = S.loose.length := ⟨_, rfl⟩
  rw [← hn] at hlv hll
  have HN := Lib.hid hn
  have HI := Lib.hid hi
  have HK := Lib.hid hok
  have HV := Lib.hid hv
  have HNE := Lib.hid hne
  have H := Lib.hid h
  have c3 := h.c3
  subst hlv
  clear h hi hok hv hne hn
  go_enter Try.func15, Try.ntmps15
  go_wp2_with fail
  go_loopw [12] (fun i wr => ∃ k : Nat, k ≤ n ∧ i = .int .i64 (k : Int) ∧ ∃ fv1, Mem wr d { S with safe := layTo y S.loose S.safe k } sv fv1 (.slice lo1 n lc) t ∧ Move w (Blks d sv fv (.slice lo1 n lc)) wr (Blks d sv fv1 (.slice lo1 n lc))) (fun i _ => n - (intOf i).toNat)
  case atStart => exact ⟨0, Nat.zero_le _, rfl, fv, H.out, Move.refl _ _⟩
  case round =>
    clear c3
    obtain ⟨k, hk, rfl, fv1, hm, hv⟩ := hrel
    have MR := Lib.hid hm
    have VR := Lib.hid hv
    obtain ⟨va, vc, rfl, _⟩ := hm.safe.rd.shape
    obtain ⟨cl, hcl⟩ : ∃ c, c = (layTo y S.loose S.safe k).length := ⟨_, rfl⟩
    rw [show ({ S with safe := layTo y S.loose S.safe k } : DS).safe = layTo y S.loose S.safe k from rfl, ← hcl] at MR VR
    have HCL := Lib.hid hcl
    have HYR := Lib.hid (HV.out.turnF VR.out.turn HNE.out)
    clear hm hv hcl
    by_cases hk2 : k < n
    · have hkl : k < S.loose.length := by rw [← HN.out]; exact hk2
      have hkz : (k : Int) < (n : Int) := by omega
      have hkb : k ≤ 34359738368 := by omega
      have HKZ := Lib.hid hkz
      have HST := Lib.hid (pstays_any ya yc y k wr HYR.out hkb)
      have HX := Lib.hid (show S.loose[k]? = some S.loose[k] from List.getElem?_eq_getElem hkl)
      obtain ⟨x, hx⟩ : ∃ x, x = S.loose[k] := ⟨_, rfl⟩
      rw [← hx] at HX
      clear hx
      cases hbit : bit y k with
      | true =>
        rw [hbit] at HST
        have HLT := Lib.hid (show layTo y S.loose S.safe (k + 1) = laid (layTo y S.loose S.safe k) x.at_ x.bytes from layTo_yes HX.out hbit)
        clear hbit
        have hxm := List.mem_of_getElem? HX.out
        have hwx := HI.out.wr x hxm
        have hkx := HK.out.loose x hxm
        have hcl2 := (layTo_ok HK.out y k).1
        have hmost := HK.out.most
        have hrd := owned_rd MR.out.loose
        rw [show ({ S with safe := layTo y S.loose S.safe k } : DS).loose = S.loose from rfl, ← HN.out] at hrd
        obtain ⟨lb, lo, hlo, hcs⟩ := hrd.at_ (by decide) k hk2
        subst hlo
        have HLW := Lib.hid (show Lw wr lb (lo + k * 514) x from fun i u hi hu => by
          have := hcs i u hi ((lwcs_get S.loose (fun y hy => (HI.out.wr y hy).1.len) k x HX.out i hi).trans hu)
          rw [Nat.add_assoc]; exact this)
        have HWX := Lib.hid hwx
        have HKX := Lib.hid hkx
        have HSX := Lib.hid (show x.size ≤ 16777216 by have := hwx.2; have := HK.out.seen; omega)
        have HCB := Lib.hid (show (layTo y S.loose S.safe k).length ≤ 16777216 by omega)
        clear hcs hrd hwx hkx hxm hcl2 hmost
        go_upto_region 5 with (go_at_call 39; (with_reducible refine HST.out.mono ?_); rintro e w3 ⟨rfl, hq⟩; rw [hq]; clear hq w3)
        obtain ⟨w2, hw2⟩ : ∃ w2, w2 = wr.drew := ⟨_, rfl⟩
        have HW2 := Lib.hid hw2
        have M2 := Lib.hid (show Mem w2 d { S with safe := layTo y S.loose S.safe k } sv (.slice va cl vc) (.slice (some ⟨lb, lo, none⟩) n lc) t by rw [hw2]; exact MR.out.below (Below.refl _ _).drew)
        have V2 := Lib.hid (show Move w (Blks d sv fv (.slice (some ⟨lb, lo, none⟩) n lc)) w2 (Blks d sv (.slice va cl vc) (.slice (some ⟨lb, lo, none⟩) n lc)) by rw [hw2]; exact VR.out.trans (Move.below (Below.refl _ _).drew))
        have HLW2 := Lib.hid (show Lw w2 lb (lo + k * 514) x by rw [hw2]; exact HLW.out.grown (grown_of_below (Below.refl _ _).drew none) (by simp))
        clear hw2
        obtain ⟨C, hC⟩ : ∃ C, C = layTo y S.loose S.safe k := ⟨_, rfl⟩
        rw [← hC] at M2 HLT HCB HCL
        have HIN := Lib.hid (pinto_any w2 lb (lo + k * 514) x HWX.out.1 HKX.out.1 HSX.out HLW2.out (.slice va cl vc) C M2.out.safe HCB.out (fun e => M2.out.fl lb e rfl))
        clear hC
        refine wp_region_z (by kernel_rfl) [11, 14] (by kernel_rfl) (by kernel_rfl) (Stg [11, 14] (CS 11 w2 (fun v W => Own W 0 v (laid C x.at_ x.bytes) ∧ w2.grownBy W (Value.slice va cl vc).ownBlock ∧ Newer v (.slice va cl vc) w2.heap.size) d 2)) [.pre (.pointer (some ⟨d, 0, none⟩)), .pre (.pointer (some ⟨d, 0, none⟩)), .pre (.pointer (some ⟨d, 0, none⟩)), .pre (.pointer (some ⟨d, 3, none⟩)), .pre (.slice (some ⟨lb, lo, none⟩) n lc), .pre (.int .i64 (k : Int)), .pre (.pointer (some ⟨lb, lo + k * 514, none⟩)), .pre (.pointer (some ⟨d, 0, none⟩)), .pre (.pointer (some ⟨d, 0, none⟩)), .pre (.pointer (some ⟨d, 2, none⟩)), .pre (.slice va cl vc), .of 11 (fun u v => v = u), .pre (.pointer (some ⟨d, 0, none⟩)), .pre (.pointer (some ⟨d, 2, none⟩)), .any] (fun i hi hq => by
                    simp only [List.mem_cons, List.mem_nil_iff, or_false] at hi
                    rcases hi with rfl | rfl
                    · exact absurd hq (by decide +kernel)
                    · rfl) (Stg.zero (show _ = w2 from HW2.out.symm)) ?_ ?_
        · refine ⟨?_, ?_, ?_, ?_, ?_, ?_, ?_, ?_, ?_, ?_, ?_, ?_, ?_, ?_, ?_, trivial⟩
          · intro a w5 r hF hI hns hri h1 h2 hd
            have e0 : a.eval (.tmp 0) = .pointer (some ⟨d, 0, none⟩) := hF 0 (by decide +kernel)
            exact doesZ_read (v := .pointer (some ⟨d, 0, none⟩)) (by decide) rfl (ex_move rfl e0) hI rfl
          · intro a w5 r hF hI hns hri h1 h2 hd
            have e0 : a.eval (.tmp 0) = .pointer (some ⟨d, 0, none⟩) := hF 0 (by decide +kernel)
            exact doesZ_read (v := .pointer (some ⟨d, 0, none⟩)) (by decide) rfl (ex_move rfl e0) hI rfl
          · intro a w5 r hF hI hns hri h1 h2 hd
            have e19 : a.eval (.tmp 19) = .pointer (some ⟨d, 0, none⟩) := hd 1 (by decide +kernel)
            exact doesZ_read (v := .pointer (some ⟨d, 0, none⟩)) (by decide) rfl (ex_nilCheck rfl e19) hI rfl
          · intro a w5 r hF hI hns hri h1 h2 hd
            have e20 : a.eval (.tmp 20) = .pointer (some ⟨d, 0, none⟩) := hd 2 (by decide +kernel)
            exact doesZ_read (v := .pointer (some ⟨d, 3, none⟩)) (by decide) rfl (ex_fieldAddr rfl e20 (by go_simp)) hI rfl
          · intro a w5 r hF hI hns hri h1 h2 hd
            have e21 : a.eval (.tmp 21) = .pointer (some ⟨d, 3, none⟩) := hd 3 (by decide +kernel)
            have hA : CS 11 w2 (fun v W => Own W 0 v (laid C x.at_ x.bytes) ∧ w2.grownBy W (Value.slice va cl vc).ownBlock ∧ Newer v (.slice va cl vc) w2.heap.size) d 2 0 r w5 := hI.at_ 0 (.inl rfl) (.inr ⟨by decide, h1 11 (by decide) (by decide +kernel)⟩)
            have hw : w5 = w2 := hA
            subst hw
            have c3 := M2.out.c3
            exact doesZ_read (v := .slice (some ⟨lb, lo, none⟩) n lc) (by decide) rfl (by unfold execOp; simp only [e21]; go_simp) hI rfl
          · intro a w5 r hF hI hns hri h1 h2 hd
            have e4 : a.eval (.tmp 4) = .int .i64 (k : Int) := hF 4 (by decide +kernel)
            exact doesZ_read (v := .int .i64 (k : Int)) (by decide) rfl (ex_move rfl e4) hI rfl
          · intro a w5 r hF hI hns hri h1 h2 hd
            have e22 : a.eval (.tmp 22) = .slice (some ⟨lb, lo, none⟩) n lc := hd 4 (by decide +kernel)
            have f22 : a.tmps[22]?.getD undef = .slice (some ⟨lb, lo, none⟩) n lc := by rw [← Array.getD_eq_getD_getElem?]; exact e22
            have e23 : a.eval (.tmp 23) = .int .i64 (k : Int) := hd 5 (by decide +kernel)
            have f23 : a.tmps[23]?.getD undef = .int .i64 (k : Int) := by rw [← Array.getD_eq_getD_getElem?]; exact e23
            have hkz := HKZ.out
            exact doesZ_read (v := .pointer (some ⟨lb, lo + k * 514, none⟩)) (by decide) rfl (by unfold execOp; simp only [e22, e23]; go_simp) hI rfl
          · intro a w5 r hF hI hns hri h1 h2 hd
            have e0 : a.eval (.tmp 0) = .pointer (some ⟨d, 0, none⟩) := hF 0 (by decide +kernel)
            exact doesZ_read (v := .pointer (some ⟨d, 0, none⟩)) (by decide) rfl (ex_move rfl e0) hI rfl
          · intro a w5 r hF hI hns hri h1 h2 hd
            have e25 : a.eval (.tmp 25) = .pointer (some ⟨d, 0, none⟩) := hd 7 (by decide +kernel)
            exact doesZ_read (v := .pointer (some ⟨d, 0, none⟩)) (by decide) rfl (ex_nilCheck rfl e25) hI rfl
          · intro a w5 r hF hI hns hri h1 h2 hd
            have e26 : a.eval (.tmp 26) = .pointer (some ⟨d, 0, none⟩) := hd 8 (by decide +kernel)
            exact doesZ_read (v := .pointer (some ⟨d, 2, none⟩)) (by decide) rfl (ex_fieldAddr rfl e26 (by go_simp)) hI rfl
          · intro a w5 r hF hI hns hri h1 h2 hd
            have e27 : a.eval (.tmp 27) = .pointer (some ⟨d, 2, none⟩) := hd 9 (by decide +kernel)
            have hA : CS 11 w2 (fun v W => Own W 0 v (laid C x.at_ x.bytes) ∧ w2.grownBy W (Value.slice va cl vc).ownBlock ∧ Newer v (.slice va cl vc) w2.heap.size) d 2 0 r w5 := hI.at_ 0 (.inl rfl) (.inr ⟨by decide, h1 11 (by decide) (by decide +kernel)⟩)
            have hw : w5 = w2 := hA
            subst hw
            have c2 := M2.out.c2
            exact doesZ_read (v := .slice va cl vc) (by decide) rfl (by unfold execOp; simp only [e27]; go_simp) hI rfl
          · intro a w5 r hF hI hns hri h1 h2 hd
            have e24 : a.eval (.tmp 24) = .pointer (some ⟨lb, lo + k * 514, none⟩) := hd 6 (by decide +kernel)
            have e28 : a.eval (.tmp 28) = .slice va cl vc := hd 10 (by decide +kernel)
            have hA : CS 11 w2 (fun v W => Own W 0 v (laid C x.at_ x.bytes) ∧ w2.grownBy W (Value.slice va cl vc).ownBlock ∧ Newer v (.slice va cl vc) w2.heap.size) d 2 0 r w5 := hI.at_ 0 (.inl rfl) (.inr ⟨by decide, hri⟩)
            have hw : w5 = w2 := hA
            subst hw
            exact doesZ_call (by decide) rfl (ex_call (vs := #[.pointer (some ⟨lb, lo + k * 514, none⟩), .slice va cl vc]) rfl (by simp only [List.map_toArray, List.map_cons, List.map_nil, e24, e28]) (by go_simp)) (HIN.out.mono fun e w6 hh => by obtain ⟨v, he, hl⟩ := hh; exact ⟨v, he, hI.next 0 11 v rfl (by decide) (.inl rfl) hri (by decide) (⟨v, Told.set_same _ _ _, hl⟩), v, Told.set_same _ _ _, rfl⟩)
          · intro a w5 r hF hI hns hri h1 h2 hd
            have e18 : a.eval (.tmp 18) = .pointer (some ⟨d, 0, none⟩) := hd 0 (by decide +kernel)
            exact doesZ_read (v := .pointer (some ⟨d, 0, none⟩)) (by decide) rfl (ex_nilCheck rfl e18) hI rfl
          · intro a w5 r hF hI hns hri h1 h2 hd
            have e30 : a.eval (.tmp 30) = .pointer (some ⟨d, 0, none⟩) := hd 12 (by decide +kernel)
            exact doesZ_read (v := .pointer (some ⟨d, 2, none⟩)) (by decide) rfl (ex_fieldAddr rfl e30 (by go_simp)) hI rfl
          · intro a w5 r hF hI hns hri h1 h2 hd
            have e31 : a.eval (.tmp 31) = .pointer (some ⟨d, 2, none⟩) := hd 13 (by decide +kernel)
            obtain ⟨u29, hu29, e29⟩ : ∃ u, r 11 = some u ∧ a.eval (.tmp 29) = u := hd 11 (by decide +kernel)
            have hA : CS 11 w2 (fun v W => Own W 0 v (laid C x.at_ x.bytes) ∧ w2.grownBy W (Value.slice va cl vc).ownBlock ∧ Newer v (.slice va cl vc) w2.heap.size) d 2 1 r w5 := hI.at_ 1 (.inr ⟨by decide, h2 11 (by decide) (by decide +kernel)⟩) (.inr ⟨by decide, hri⟩)
            obtain ⟨v0, hv0, hp⟩ := hA
            obtain rfl : v0 = u29 := Option.some.inj (hv0.symm.trans hu29)
            obtain ⟨ho, hg, hk⟩ := hp
            obtain ⟨va, vc, rfl, _⟩ := ho.rd.shape
            have hb := M2.out.blk.grown hg (fun e => M2.out.nf e.symm)
            exact doesZ_store (by decide) rfl 33 (.tmp 31) (.tmp 29) rfl d 2 e31 (.slice va _ vc) e29 rfl rfl 58 (_) hb (show 2 < 9 by omega) (by kernel_rfl) rfl (fun v => hI.next 1 14 v rfl (by decide) (.inr ⟨by decide, h2 11 (by decide) (by decide +kernel)⟩) hri (by decide) (⟨_, _, (Told.set_ne (by decide)).trans hv0, ⟨ho, hg, hk⟩, rfl⟩))
        · intro vs r w5 hI hS hv
          obtain ⟨u, W, _, ⟨o1, g1, k1⟩, hw5⟩ := hI.at_ 2 (.inr ⟨by decide, hS 14 (by decide)⟩) (.inl rfl)
          have m1 := M2.out.safeTo o1 g1 k1
          rw [← hw5, ← HLT.out] at m1
          have M5 := Lib.hid m1.1
          have V5 := Lib.hid (V2.out.trans m1.2)
          clear hI hS hv o1 g1 k1 hw5 m1
          simp only [putOps, Act.put, List.setIfInBounds_toArray, List.set_cons_zero, List.set_cons_succ]
          go_wp2_with fail
          go_roundw
          case rel => exact ⟨k + 1, by omega, by go_num, _, M5.out, V5.out⟩
          case measure => simp [intOf]; omega
      | false =>
        rw [hbit] at HST
        have HLT := Lib.hid (show layTo y S.loose S.safe (k + 1) = layTo y S.loose S.safe k by rw [layTo, HX.out]; simp only; rw [if_neg (by rw [hbit]; decide)])
        clear hbit
        go_wp2_with (go_at_call 39; (with_reducible refine HST.out.mono ?_); rintro e w3 ⟨rfl, hq⟩; rw [hq]; clear hq w3)
        go_roundw
        case rel => exact ⟨k + 1, by omega, by go_num, _, by rw [HLT.out]; exact MR.out, VR.out⟩
        case measure => simp [intOf]; omega
    · obtain rfl : k = n := by omega
      have hkz : ¬ ((k : Int) < (k : Int)) := by omega
      have c2 := MR.out.c2
      have HC := Lib.hid (pclone_any _ _ wr MR.out.safe.rd)
      have hbf := built_fail0
      clear HYR HCL
      go_wp2_with (go_at_call 37; (with_reducible refine HC.out.mono ?_); rintro e w3 ⟨y1, rfl, o1, b1, _⟩; obtain ⟨a1, c1, rfl, _⟩ := o1.rd.shape; have O1 := Lib.hid o1; have B1 := Lib.hid b1; have D3 := Lib.hid (MR.out.blk.below b1 MR.out.blk.lt); have k1 := D3.out.cell 1 _ rfl; have k3 := D3.out.cell 3 _ rfl; have k5 := D3.out.cell 5 _ rfl; have k6 := D3.out.cell 6 _ rfl; have k7 := D3.out.cell 7 _ rfl; have k8 := D3.out.cell 8 _ rfl; have f1 := D3.out.free 1; have f3 := D3.out.free 3; have f5 := D3.out.free 5; have f6 := D3.out.free 6; have f7 := D3.out.free 7; have f8 := D3.out.free 8; clear o1 b1)
      have hfin := start_end MR.out VR.out B1.out O1.out
      have HF := Lib.hid (show DM.start S y = ⟨S.most, layTo y S.loose S.safe k, layTo y S.loose S.safe k, [], S.steps, false, false, 0, false⟩ by unfold DM.start; rw [← HN.out])
      refine bodyPost_end (results_none rfl _ _ _) rfl ⟨rfl, ?_⟩
      rw [HF.out]
      exact hfin
end Go.Proofs.Ytipdcocliefppaa
/- An Edit of the program's device; a Sync: contracts. Written by gen_devpedit.py. Own work. -/
namespace Go.Proofs.Ytipdcocliefppaa
open Go.ChangeShapes Go.WideShapes Go.ChangeAt Go.RowKit
open DM
/-- What is seen and what is safe have turned, and both slices are stored. -/
theorem mem_edit {w W1 W2 : World} {d : Nat} {S : DS} {sv fv lv v u : Value} {t : Bool} {X Y : List Nat} (h : Mem w d S sv fv lv t) (o1 : Own W1 0 v X) (g1 : w.grownBy W1 sv.ownBlock) (k1 : v.ownBlock = sv.ownBlock ∨ v.ownBlock = some w.heap.size) (o2 : Own W2 0 u Y) (g2 : W1.grownBy W2 fv.ownBlock) (k2 : u.ownBlock = fv.ownBlock ∨ u.ownBlock = some W1.heap.size) :
    Mem ((W2.setCell ⟨d, 1, none⟩ v).setCell ⟨d, 2, none⟩ u) d { S with seen := X, safe := Y } v u lv t ∧ Move w (Blks d sv fv lv) ((W2.setCell ⟨d, 1, none⟩ v).setCell ⟨d, 2, none⟩ u) (Blks d v u lv) := by
  have hl := h.lt
  have hd := hl d (.inl rfl)
  have hs1 := g1.size
  have n1 := newer k1
  have n2 := newer k2
  have vd : v.ownBlock ≠ some d := fun q => (n1 d q).elim h.ns (by omega)
  have ud : u.ownBlock ≠ some d := fun q => (n2 d q).elim h.nf (by omega)
  have vf : v.ownBlock = none ∨ v.ownBlock ≠ fv.ownBlock := by
    cases e : v.ownBlock with
    | none => exact .inl rfl
    | some g =>
      refine .inr (fun q => ?_)
      rcases n1 g e with z | z
      · exact h.sf g z q.symm
      · have := hl g (.inr (.inr (.inl q.symm))); omega
  have ls : lv.ownBlock = none ∨ lv.ownBlock ≠ sv.ownBlock := by
    cases e : lv.ownBlock with
    | none => exact .inl rfl
    | some g => exact .inr (fun q => h.sl g q.symm e)
  have lf : lv.ownBlock = none ∨ lv.ownBlock ≠ fv.ownBlock := by
    cases e : lv.ownBlock with
    | none => exact .inl rfl
    | some g => exact .inr (fun q => h.fl g q.symm e)
  have c1 := grownBy_cell W2 d 1 v
  have c2 := grownBy_cell (W2.setCell ⟨d, 1, none⟩ v) d 2 u
  have hv := fun g (q : v.ownBlock = some g) => (o1.from g q).2
  refine gone_of h (((Turn.of_row g1 (fun j e => .inr (.inl e))).trans (Turn.of_row (F := Blks d sv fv lv) g2 (fun j e => .inr (.inr (.inl e)))) (fun _ q => .inl q)).trans (Turn.of_grown (F := Blks d sv fv lv) (only_trans c1 c2) (.inl rfl)) (fun _ q => .inl q))
    (((((h.blk.grown g1 (fun e => h.ns e.symm)).grown g2 (fun e => h.nf e.symm)).set 1 v).set 2 u)) (((o1.keep g2 vf).keep c1 (.inr vd)).keep c2 (.inr vd)) ((o2.keep c1 (.inr ud)).keep c2 (.inr ud)) (World.ownsRow.kept (World.ownsRow.kept (World.ownsRow.kept (World.ownsRow.kept h.loose g1 ls) g2 lf) c1 (.inr h.nl)) c2 (.inr h.nl)) h.tl
    n1 (fun g e => (n2 g e).imp id (fun q => by omega)) (fun g e => .inl e) (fun g hg e q => ?_) (fun g hg e q => ?_) (fun g hg e q => ?_)
  · rcases n2 g q with z | z
    · have := hl g (.inr (.inr (.inl z))); omega
    · have := hv g e; omega
  · have := hl g (.inr (.inr (.inr q))); omega
  · have := hl g (.inr (.inr (.inr q))); omega
/-- Two calls, and a store of what each one told. -/
def E4 (c1 c2 : Nat) (w0 : World) (P1 : Value → World → Prop) (P2 : Value → Value → World → Prop) (d : Nat) : Nat → Told → World → Prop
  | 0, _, w => w = w0
  | 1, r, w => ∃ v, r c1 = some v ∧ P1 v w
  | 2, r, w => ∃ v u, r c1 = some v ∧ r c2 = some u ∧ P2 v u w
  | 3, r, w => ∃ v u W, r c1 = some v ∧ r c2 = some u ∧ P2 v u W ∧ w = W.setCell ⟨d, 1, none⟩ v
  | _, _, w => ∃ v u W, P2 v u W ∧ w = (W.setCell ⟨d, 1, none⟩ v).setCell ⟨d, 2, none⟩ u
theorem pdsync_any (w : World) (d : Nat) (S : DS) (sv fv lv : Value) (t : Bool) (h : Mem w d S sv fv lv t) (hi : Inv S) (ho : S.seen.length ≤ 16777216) (hll : S.loose.length ≤ 34359738368) (hs : S.steps < 9223372036854775807) (ha : S.after ≤ 9223372036854775807) : Calls Try.prog 20 #[.pointer (some ⟨d, 0, none⟩)] w fun e w' => e = .returned (.int .i64 (DM.sync S).2) ∧ Gone w d sv fv lv (DM.sync S).1 w' := by
  have HR := Lib.hid (pdready_any w d S sv fv lv t h)
  unfold DM.sync
  rw [show ({ S with safe := S.seen, loose := [] } : DS) = synced S from rfl]
  cases hd : S.down with
  | true =>
    have HG := Lib.hid (Gone.same w d S sv fv lv t h)
    rw [hd] at HR
    clear h
    go_enter Try.func20, Try.ntmps20
    go_wp2_with (go_at_call 42; (with_reducible refine HR.out.mono ?_); rintro e w1 ⟨rfl, hq⟩; rw [hq]; clear hq w1)
    go_ret
    exact ⟨rfl, HG.out⟩
  | false =>
    have HS := Lib.hid (pstep_sync w d S synced sv fv lv t h hd hs ha hi.told (does_sync S) (fun dn af w1 _ h0 m1 _ => psecure_any w1 d (counted S dn af) sv fv lv t m1 ⟨hi.short, hi.wr, hi.same, h0⟩ ho hll))
    rw [hd] at HR
    clear h
    go_enter Try.func20, Try.ntmps20
    go_wp2_with (first
      | (go_at_call 42; (with_reducible refine HR.out.mono ?_); rintro e w1 ⟨rfl, hq⟩; rw [hq]; clear hq w1)
      | (go_at_call 43; (with_reducible refine HS.out.mono ?_); rintro e w1 ⟨rfl, g1⟩; have G1 := Lib.hid g1; clear g1))
    go_ret
    exact ⟨rfl, G1.out⟩
set_option maxRecDepth 100000 in
set_option maxHeartbeats 2000000 in
theorem pdedit_any (w : World) (d : Nat) (S : DS) (sv fv lv : Value) (t : Bool) (h : Mem w d S sv fv lv t) (hi : Inv S) (hok : Ok S) (z : Int) (hz : -9223372036854775808 ≤ z ∧ z ≤ 9223372036854775807) (v : Value) (l : List Nat) (hv : Rd w v l) (hl : l.length ≤ 16777216) (hne : 0 < l.length → ∀ g, v.ownBlock = some g → ¬ Blks d sv fv lv g) :
    Calls Try.prog 16 #[.pointer (some ⟨d, 0, none⟩), .int .i64 z, v] w fun e w' => e = .returned (.tuple #[]) ∧ Gone w d sv fv lv (DM.edit S z l) w' := by
  obtain ⟨bo, bc, rfl, hbc⟩ := hv.shape
  obtain ⟨so, sc, rfl, hsc⟩ := h.seen.rd.shape
  obtain ⟨fo, fc, rfl, hfc⟩ := h.safe.rd.shape
  obtain ⟨sl, hsl⟩ : ∃ n, n = S.seen.length := ⟨_, rfl⟩
  obtain ⟨fl, hfl⟩ : ∃ n, n = S.safe.length := ⟨_, rfl⟩
  obtain ⟨bl, hbl⟩ : ∃ n, n = l.length := ⟨_, rfl⟩
  obtain ⟨mo, hmo⟩ : ∃ n, n = S.most := ⟨_, rfl⟩
  have hmost := hok.most
  have hseen := hok.seen
  have hshort := hi.short
  have c0 := h.c0
  have c1 := h.c1
  rw [← hmo] at c0
  rw [← hsl] at c1
  have HG := Lib.hid (Gone.same w d S (.slice so S.seen.length sc) (.slice fo S.safe.length fc) lv t h)
  have H := Lib.hid h
  have HV := Lib.hid hv
  have HNE := Lib.hid hne
  rw [← hbl] at HNE HV
  rw [← hsl, ← hfl] at HG H HNE
  have HMO := Lib.hid hmo
  have HSL := Lib.hid hsl
  have HFL := Lib.hid hfl
  have HBL := Lib.hid hbl
  have hmb : mo ≤ 16777216 := by omega
  have hsm : sl ≤ mo := by omega
  have hfs : fl ≤ sl := by omega
  have hbb : bl ≤ 16777216 := by omega
  have HDM := Lib.hid (show DM.edit S z l = if z < 0 ∨ (sl : Int) < z ∨ (mo : Int) - z < (bl : Int) then S else { S with seen := laid S.seen z.toNat l, safe := laid S.safe z.toNat l } by rw [hsl, hmo, hbl]; rfl)
  rw [HDM.out]
  rw [← hbl, ← hsl, ← hfl]
  clear h hv hne hi hok hmo hsl hfl hbl hl hmost hseen hshort hbc hsc hfc
  by_cases h1 : z < 0
  · have HE := Lib.hid (show (if z < 0 ∨ (sl : Int) < z ∨ (mo : Int) - z < (bl : Int) then S else { S with seen := laid S.seen z.toNat l, safe := laid S.safe z.toNat l }) = S by rw [if_pos (.inl h1)])
    rw [HE.out]
    go_enter Try.func16, Try.ntmps16
    go_wp2_with fail
    exact bodyPost_ret (results_none rfl _ _ _) rfl ⟨rfl, HG.out⟩
  · by_cases h2 : (sl : Int) < z
    · have HE := Lib.hid (show (if z < 0 ∨ (sl : Int) < z ∨ (mo : Int) - z < (bl : Int) then S else { S with seen := laid S.seen z.toNat l, safe := laid S.safe z.toNat l }) = S by rw [if_pos (.inr (.inl h2))])
      rw [HE.out]
      go_enter Try.func16, Try.ntmps16
      go_wp2_with fail
      exact bodyPost_ret (results_none rfl _ _ _) rfl ⟨rfl, HG.out⟩
    · have hw : IntKind.i64.wrap ((mo : Int) - z) = (mo : Int) - z := by rw [IntKind.wrap_i64]; omega
      by_cases h3 : (mo : Int) - z < (bl : Int)
      · have HE := Lib.hid (show (if z < 0 ∨ (sl : Int) < z ∨ (mo : Int) - z < (bl : Int) then S else { S with seen := laid S.seen z.toNat l, safe := laid S.safe z.toNat l }) = S by rw [if_pos (.inr (.inr h3))])
        rw [HE.out]
        go_enter Try.func16, Try.ntmps16
        go_wp2_with fail
        exact bodyPost_ret (results_none rfl _ _ _) rfl ⟨rfl, HG.out⟩
      · have HE := Lib.hid (show (if z < 0 ∨ (sl : Int) < z ∨ (mo : Int) - z < (bl : Int) then S else { S with seen := laid S.seen z.toNat l, safe := laid S.safe z.toNat l }) = { S with seen := laid S.seen z.toNat l, safe := laid S.safe z.toNat l } by rw [if_neg (by omega)])
        rw [HE.out]
        obtain ⟨p, rfl⟩ : ∃ p : Nat, z = (p : Int) := ⟨z.toNat, by omega⟩
        by_cases hb0 : bl = 0
        · have HN := Lib.hid (show ({ S with seen := laid S.seen (p : Int).toNat l, safe := laid S.safe (p : Int).toNat l } : DS) = S by
            have : l = [] := List.eq_nil_of_length_eq_zero (by rw [← HBL.out]; exact hb0)
            subst this; rw [laid_nil, laid_nil])
          rw [HN.out]
          have hbz : ((bl : Int) == 0) = true := by rw [hb0]; rfl
          go_enter Try.func16, Try.ntmps16
          go_wp2_with fail
          exact bodyPost_ret (results_none rfl _ _ _) rfl ⟨rfl, HG.out⟩
        · have HB0 := Lib.hid hb0
          have hbz : ((bl : Int) == 0) = false := by rw [beq_eq_false_iff_ne]; omega
          have hbz2 : ¬ ((bl : Int) = 0) := by omega
          have hbz3 : ¬ (bl = 0) := hb0
          have hab : p ≤ 16777216 := by omega
          clear hb0
          go_enter Try.func16, Try.ntmps16
          go_upto_region 2 with fail
          obtain ⟨w1, hw1⟩ : ∃ w1, w1 = w.drew := ⟨_, rfl⟩
          have HW1 := Lib.hid hw1
          have HM := Lib.hid (show Mem w1 d S (.slice so sl sc) (.slice fo fl fc) lv t by rw [hw1]; exact H.out.below (Below.refl _ _).drew)
          have V1 := Lib.hid (show Move w (Blks d (.slice so sl sc) (.slice fo fl fc) lv) w1 (Blks d (.slice so sl sc) (.slice fo fl fc) lv) by rw [hw1]; exact Move.below (Below.refl _ _).drew)
          have HV1 := Lib.hid (show Rd w1 (.slice bo bl bc) l by rw [hw1]; exact HV.out.below (Below.refl _ _).drew)
          clear hw1
          have HL1 := Lib.hid (play_any 0 (.slice so sl sc) S.seen p (.slice bo bl bc) l w1 HM.out.seen HV1.out (fun hp g e q => HNE.out (by rw [HBL.out]; exact hp) g e (.inr (.inl q))) (Nat.zero_le _) hab (by rw [← HBL.out]; exact hbb) (by rw [← HSL.out]; omega))
          have HL2 := Lib.hid (fun (W : World) (g : w1.grownBy W (Value.slice so sl sc).ownBlock) => play_any 0 (.slice fo fl fc) S.safe p (.slice bo bl bc) l W (HM.out.safe.keep g (by
            cases e : (Value.slice fo fl fc).ownBlock with
            | none => exact .inl rfl
            | some j => exact .inr (fun q => HM.out.sf j q.symm e))) (HV1.out.turned g (fun hp j e q => HNE.out (by rw [HBL.out]; exact hp) j e (.inr (.inl q)))) (fun hp g e q => HNE.out (by rw [HBL.out]; exact hp) g e (.inr (.inr (.inl q)))) (Nat.zero_le _) hab (by rw [← HBL.out]; exact hbb) (by rw [← HFL.out]; omega))
          refine wp_region_z (by kernel_rfl) [8, 15, 18, 21] (by kernel_rfl) (by kernel_rfl) (Stg [8, 15, 18, 21] (E4 8 15 w1 (fun v W => Own W 0 v (lay S.seen p l) ∧ w1.grownBy W (Value.slice so sl sc).ownBlock ∧ (v.ownBlock = (Value.slice so sl sc).ownBlock ∨ v.ownBlock = some w1.heap.size)) (fun v u W => ∃ W1, Own W1 0 v (lay S.seen p l) ∧ w1.grownBy W1 (Value.slice so sl sc).ownBlock ∧ (v.ownBlock = (Value.slice so sl sc).ownBlock ∨ v.ownBlock = some w1.heap.size) ∧ Own W 0 u (lay S.safe p l) ∧ W1.grownBy W (Value.slice fo fl fc).ownBlock ∧ (u.ownBlock = (Value.slice fo fl fc).ownBlock ∨ u.ownBlock = some W1.heap.size)) d)) [.pre (.pointer (some ⟨d, 0, none⟩)), .pre (.pointer (some ⟨d, 0, none⟩)), .pre (.pointer (some ⟨d, 0, none⟩)), .pre (.pointer (some ⟨d, 0, none⟩)), .pre (.pointer (some ⟨d, 1, none⟩)), .pre (.slice so sl sc), .pre (.int .i64 (p : Int)), .pre (.slice bo bl bc), .of 8 (fun u v => v = u), .pre (.pointer (some ⟨d, 0, none⟩)), .pre (.pointer (some ⟨d, 0, none⟩)), .pre (.pointer (some ⟨d, 2, none⟩)), .pre (.slice fo fl fc), .pre (.int .i64 (p : Int)), .pre (.slice bo bl bc), .of 15 (fun u v => v = u), .pre (.pointer (some ⟨d, 0, none⟩)), .pre (.pointer (some ⟨d, 1, none⟩)), .any, .pre (.pointer (some ⟨d, 0, none⟩)), .pre (.pointer (some ⟨d, 2, none⟩)), .any] (fun i hi hq => by
                      simp only [List.mem_cons, List.mem_nil_iff, or_false] at hi
                      rcases hi with rfl | rfl | rfl | rfl
                      · exact absurd hq (by decide +kernel)
                      · exact absurd hq (by decide +kernel)
                      · rfl
                      · rfl) (Stg.zero (show _ = w1 from HW1.out.symm)) ?_ ?_
          · refine ⟨?_, ?_, ?_, ?_, ?_, ?_, ?_, ?_, ?_, ?_, ?_, ?_, ?_, ?_, ?_, ?_, ?_, ?_, ?_, ?_, ?_, ?_, trivial⟩
            · intro a w5 r hF hI hns hri h1 h2 hd
              have e0 : a.eval (.tmp 0) = .pointer (some ⟨d, 0, none⟩) := hF 0 (by decide +kernel)
              exact doesZ_read (v := .pointer (some ⟨d, 0, none⟩)) (by decide) rfl (ex_move rfl e0) hI rfl
            · intro a w5 r hF hI hns hri h1 h2 hd
              have e0 : a.eval (.tmp 0) = .pointer (some ⟨d, 0, none⟩) := hF 0 (by decide +kernel)
              exact doesZ_read (v := .pointer (some ⟨d, 0, none⟩)) (by decide) rfl (ex_move rfl e0) hI rfl
            · intro a w5 r hF hI hns hri h1 h2 hd
              have e0 : a.eval (.tmp 0) = .pointer (some ⟨d, 0, none⟩) := hF 0 (by decide +kernel)
              exact doesZ_read (v := .pointer (some ⟨d, 0, none⟩)) (by decide) rfl (ex_move rfl e0) hI rfl
            · intro a w5 r hF hI hns hri h1 h2 hd
              have e37 : a.eval (.tmp 37) = .pointer (some ⟨d, 0, none⟩) := hd 2 (by decide +kernel)
              exact doesZ_read (v := .pointer (some ⟨d, 0, none⟩)) (by decide) rfl (ex_nilCheck rfl e37) hI rfl
            · intro a w5 r hF hI hns hri h1 h2 hd
              have e38 : a.eval (.tmp 38) = .pointer (some ⟨d, 0, none⟩) := hd 3 (by decide +kernel)
              exact doesZ_read (v := .pointer (some ⟨d, 1, none⟩)) (by decide) rfl (ex_fieldAddr rfl e38 (by go_simp)) hI rfl
            · intro a w5 r hF hI hns hri h1 h2 hd
              have e39 : a.eval (.tmp 39) = .pointer (some ⟨d, 1, none⟩) := hd 4 (by decide +kernel)
              have hA : E4 8 15 w1 (fun v W => Own W 0 v (lay S.seen p l) ∧ w1.grownBy W (Value.slice so sl sc).ownBlock ∧ (v.ownBlock = (Value.slice so sl sc).ownBlock ∨ v.ownBlock = some w1.heap.size)) (fun v u W => ∃ W1, Own W1 0 v (lay S.seen p l) ∧ w1.grownBy W1 (Value.slice so sl sc).ownBlock ∧ (v.ownBlock = (Value.slice so sl sc).ownBlock ∨ v.ownBlock = some w1.heap.size) ∧ Own W 0 u (lay S.safe p l) ∧ W1.grownBy W (Value.slice fo fl fc).ownBlock ∧ (u.ownBlock = (Value.slice fo fl fc).ownBlock ∨ u.ownBlock = some W1.heap.size)) d 0 r w5 := hI.at_ 0 (.inl rfl) (.inr ⟨by decide, h1 8 (by decide) (by decide +kernel)⟩)
              have hw : w5 = w1 := hA
              subst hw
              have c1 := HM.out.c1
              exact doesZ_read (v := .slice so sl sc) (by decide) rfl (by unfold execOp; simp only [e39]; go_simp) hI rfl
            · intro a w5 r hF hI hns hri h1 h2 hd
              have e1 : a.eval (.tmp 1) = .int .i64 (p : Int) := hF 1 (by decide +kernel)
              exact doesZ_read (v := .int .i64 (p : Int)) (by decide) rfl (ex_move rfl e1) hI rfl
            · intro a w5 r hF hI hns hri h1 h2 hd
              have e2 : a.eval (.tmp 2) = .slice bo bl bc := hF 2 (by decide +kernel)
              exact doesZ_read (v := .slice bo bl bc) (by decide) rfl (ex_move rfl e2) hI rfl
            · intro a w5 r hF hI hns hri h1 h2 hd
              have e40 : a.eval (.tmp 40) = .slice so sl sc := hd 5 (by decide +kernel)
              have e41 : a.eval (.tmp 41) = .int .i64 (p : Int) := hd 6 (by decide +kernel)
              have e42 : a.eval (.tmp 42) = .slice bo bl bc := hd 7 (by decide +kernel)
              have hA : E4 8 15 w1 (fun v W => Own W 0 v (lay S.seen p l) ∧ w1.grownBy W (Value.slice so sl sc).ownBlock ∧ (v.ownBlock = (Value.slice so sl sc).ownBlock ∨ v.ownBlock = some w1.heap.size)) (fun v u W => ∃ W1, Own W1 0 v (lay S.seen p l) ∧ w1.grownBy W1 (Value.slice so sl sc).ownBlock ∧ (v.ownBlock = (Value.slice so sl sc).ownBlock ∨ v.ownBlock = some w1.heap.size) ∧ Own W 0 u (lay S.safe p l) ∧ W1.grownBy W (Value.slice fo fl fc).ownBlock ∧ (u.ownBlock = (Value.slice fo fl fc).ownBlock ∨ u.ownBlock = some W1.heap.size)) d 0 r w5 := hI.at_ 0 (.inl rfl) (.inr ⟨by decide, hri⟩)
              have hw : w5 = w1 := hA
              subst hw
              exact doesZ_call (by decide) rfl (ex_call (vs := #[.slice so sl sc, .int .i64 (p : Int), .slice bo bl bc]) rfl (by simp only [List.map_toArray, List.map_cons, List.map_nil, e40, e41, e42]) (by go_simp)) (HL1.out.mono fun e w6 hh => by obtain ⟨v, he, hl⟩ := hh; exact ⟨v, he, hI.next 0 8 v rfl (by decide) (.inl rfl) hri (by decide) (⟨v, Told.set_same _ _ _, hl⟩), v, Told.set_same _ _ _, rfl⟩)
            · intro a w5 r hF hI hns hri h1 h2 hd
              have e0 : a.eval (.tmp 0) = .pointer (some ⟨d, 0, none⟩) := hF 0 (by decide +kernel)
              exact doesZ_read (v := .pointer (some ⟨d, 0, none⟩)) (by decide) rfl (ex_move rfl e0) hI rfl
            · intro a w5 r hF hI hns hri h1 h2 hd
              have e44 : a.eval (.tmp 44) = .pointer (some ⟨d, 0, none⟩) := hd 9 (by decide +kernel)
              exact doesZ_read (v := .pointer (some ⟨d, 0, none⟩)) (by decide) rfl (ex_nilCheck rfl e44) hI rfl
            · intro a w5 r hF hI hns hri h1 h2 hd
              have e45 : a.eval (.tmp 45) = .pointer (some ⟨d, 0, none⟩) := hd 10 (by decide +kernel)
              exact doesZ_read (v := .pointer (some ⟨d, 2, none⟩)) (by decide) rfl (ex_fieldAddr rfl e45 (by go_simp)) hI rfl
            · intro a w5 r hF hI hns hri h1 h2 hd
              have e46 : a.eval (.tmp 46) = .pointer (some ⟨d, 2, none⟩) := hd 11 (by decide +kernel)
              obtain ⟨k, hk1, hk2, hA⟩ : ∃ k, 0 ≤ k ∧ k ≤ 1 ∧ E4 8 15 w1 (fun v W => Own W 0 v (lay S.seen p l) ∧ w1.grownBy W (Value.slice so sl sc).ownBlock ∧ (v.ownBlock = (Value.slice so sl sc).ownBlock ∨ v.ownBlock = some w1.heap.size)) (fun v u W => ∃ W1, Own W1 0 v (lay S.seen p l) ∧ w1.grownBy W1 (Value.slice so sl sc).ownBlock ∧ (v.ownBlock = (Value.slice so sl sc).ownBlock ∨ v.ownBlock = some w1.heap.size) ∧ Own W 0 u (lay S.safe p l) ∧ W1.grownBy W (Value.slice fo fl fc).ownBlock ∧ (u.ownBlock = (Value.slice fo fl fc).ownBlock ∨ u.ownBlock = some W1.heap.size)) d k r w5 := hI.between 0 1 (.inl rfl) (.inr ⟨by decide, h1 15 (by decide) (by decide +kernel)⟩)
              have c2 : w5.cell? ⟨d, 2, none⟩ = some (.slice fo fl fc) := by
                rcases (show k = 0 ∨ k = 1 by omega) with rfl | rfl
                · have hw : w5 = w1 := hA
                  rw [hw]; exact HM.out.c2
                · obtain ⟨_, _, _, hg, _⟩ := hA
                  exact (HM.out.blk.grown hg (fun e => HM.out.ns e.symm)).cell 2 _ rfl
              exact doesZ_read (v := .slice fo fl fc) (by decide) rfl (by unfold execOp; simp only [e46]; go_simp) hI rfl
            · intro a w5 r hF hI hns hri h1 h2 hd
              have e1 : a.eval (.tmp 1) = .int .i64 (p : Int) := hF 1 (by decide +kernel)
              exact doesZ_read (v := .int .i64 (p : Int)) (by decide) rfl (ex_move rfl e1) hI rfl
            · intro a w5 r hF hI hns hri h1 h2 hd
              have e2 : a.eval (.tmp 2) = .slice bo bl bc := hF 2 (by decide +kernel)
              exact doesZ_read (v := .slice bo bl bc) (by decide) rfl (ex_move rfl e2) hI rfl
            · intro a w5 r hF hI hns hri h1 h2 hd
              have e47 : a.eval (.tmp 47) = .slice fo fl fc := hd 12 (by decide +kernel)
              have e48 : a.eval (.tmp 48) = .int .i64 (p : Int) := hd 13 (by decide +kernel)
              have e49 : a.eval (.tmp 49) = .slice bo bl bc := hd 14 (by decide +kernel)
              have hA : E4 8 15 w1 (fun v W => Own W 0 v (lay S.seen p l) ∧ w1.grownBy W (Value.slice so sl sc).ownBlock ∧ (v.ownBlock = (Value.slice so sl sc).ownBlock ∨ v.ownBlock = some w1.heap.size)) (fun v u W => ∃ W1, Own W1 0 v (lay S.seen p l) ∧ w1.grownBy W1 (Value.slice so sl sc).ownBlock ∧ (v.ownBlock = (Value.slice so sl sc).ownBlock ∨ v.ownBlock = some w1.heap.size) ∧ Own W 0 u (lay S.safe p l) ∧ W1.grownBy W (Value.slice fo fl fc).ownBlock ∧ (u.ownBlock = (Value.slice fo fl fc).ownBlock ∨ u.ownBlock = some W1.heap.size)) d 1 r w5 := hI.at_ 1 (.inr ⟨by decide, h2 8 (by decide) (by decide +kernel)⟩) (.inr ⟨by decide, hri⟩)
              obtain ⟨v0, hv0, ho1, hg1, hk1⟩ := hA
              exact doesZ_call (by decide) rfl (ex_call (vs := #[.slice fo fl fc, .int .i64 (p : Int), .slice bo bl bc]) rfl (by simp only [List.map_toArray, List.map_cons, List.map_nil, e47, e48, e49]) (by go_simp)) ((HL2.out w5 hg1).mono fun e w6 hh => by obtain ⟨v, he, hl⟩ := hh; exact ⟨v, he, hI.next 1 15 v rfl (by decide) (.inr ⟨by decide, h2 8 (by decide) (by decide +kernel)⟩) hri (by decide) (⟨v0, v, (Told.set_ne (by decide)).trans hv0, Told.set_same _ _ _, w5, ho1, hg1, hk1, hl⟩), v, Told.set_same _ _ _, rfl⟩)
            · intro a w5 r hF hI hns hri h1 h2 hd
              have e35 : a.eval (.tmp 35) = .pointer (some ⟨d, 0, none⟩) := hd 0 (by decide +kernel)
              exact doesZ_read (v := .pointer (some ⟨d, 0, none⟩)) (by decide) rfl (ex_nilCheck rfl e35) hI rfl
            · intro a w5 r hF hI hns hri h1 h2 hd
              have e51 : a.eval (.tmp 51) = .pointer (some ⟨d, 0, none⟩) := hd 16 (by decide +kernel)
              exact doesZ_read (v := .pointer (some ⟨d, 1, none⟩)) (by decide) rfl (ex_fieldAddr rfl e51 (by go_simp)) hI rfl
            · intro a w5 r hF hI hns hri h1 h2 hd
              have e52 : a.eval (.tmp 52) = .pointer (some ⟨d, 1, none⟩) := hd 17 (by decide +kernel)
              obtain ⟨u43, hu43, e43⟩ : ∃ u, r 8 = some u ∧ a.eval (.tmp 43) = u := hd 8 (by decide +kernel)
              have hA : E4 8 15 w1 (fun v W => Own W 0 v (lay S.seen p l) ∧ w1.grownBy W (Value.slice so sl sc).ownBlock ∧ (v.ownBlock = (Value.slice so sl sc).ownBlock ∨ v.ownBlock = some w1.heap.size)) (fun v u W => ∃ W1, Own W1 0 v (lay S.seen p l) ∧ w1.grownBy W1 (Value.slice so sl sc).ownBlock ∧ (v.ownBlock = (Value.slice so sl sc).ownBlock ∨ v.ownBlock = some w1.heap.size) ∧ Own W 0 u (lay S.safe p l) ∧ W1.grownBy W (Value.slice fo fl fc).ownBlock ∧ (u.ownBlock = (Value.slice fo fl fc).ownBlock ∨ u.ownBlock = some W1.heap.size)) d 2 r w5 := hI.at_ 2 (.inr ⟨by decide, h2 15 (by decide) (by decide +kernel)⟩) (.inr ⟨by decide, hri⟩)
              obtain ⟨v0, u0, hv0, hu0, hP⟩ := hA
              obtain rfl : v0 = u43 := Option.some.inj (hv0.symm.trans hu43)
              have hP2 := hP
              obtain ⟨W1, ho1, hg1, hk1, ho2, hg2, hk2⟩ := hP
              obtain ⟨va, vc, rfl, _⟩ := ho1.rd.shape
              have hb := (HM.out.blk.grown hg1 (fun e => HM.out.ns e.symm)).grown hg2 (fun e => HM.out.nf e.symm)
              exact doesZ_store (by decide) rfl 33 (.tmp 52) (.tmp 43) rfl d 1 e52 (.slice va _ vc) e43 rfl rfl 58 (_) hb (show 1 < 9 by omega) (by kernel_rfl) rfl (fun v => hI.next 2 18 v rfl (by decide) (.inr ⟨by decide, h2 15 (by decide) (by decide +kernel)⟩) hri (by decide) (⟨_, u0, w5, (Told.set_ne (by decide)).trans hv0, (Told.set_ne (by decide)).trans hu0, hP2, rfl⟩))
            · intro a w5 r hF hI hns hri h1 h2 hd
              have e36 : a.eval (.tmp 36) = .pointer (some ⟨d, 0, none⟩) := hd 1 (by decide +kernel)
              exact doesZ_read (v := .pointer (some ⟨d, 0, none⟩)) (by decide) rfl (ex_nilCheck rfl e36) hI rfl
            · intro a w5 r hF hI hns hri h1 h2 hd
              have e53 : a.eval (.tmp 53) = .pointer (some ⟨d, 0, none⟩) := hd 19 (by decide +kernel)
              exact doesZ_read (v := .pointer (some ⟨d, 2, none⟩)) (by decide) rfl (ex_fieldAddr rfl e53 (by go_simp)) hI rfl
            · intro a w5 r hF hI hns hri h1 h2 hd
              have e54 : a.eval (.tmp 54) = .pointer (some ⟨d, 2, none⟩) := hd 20 (by decide +kernel)
              obtain ⟨u50, hu50, e50⟩ : ∃ u, r 15 = some u ∧ a.eval (.tmp 50) = u := hd 15 (by decide +kernel)
              have hA : E4 8 15 w1 (fun v W => Own W 0 v (lay S.seen p l) ∧ w1.grownBy W (Value.slice so sl sc).ownBlock ∧ (v.ownBlock = (Value.slice so sl sc).ownBlock ∨ v.ownBlock = some w1.heap.size)) (fun v u W => ∃ W1, Own W1 0 v (lay S.seen p l) ∧ w1.grownBy W1 (Value.slice so sl sc).ownBlock ∧ (v.ownBlock = (Value.slice so sl sc).ownBlock ∨ v.ownBlock = some w1.heap.size) ∧ Own W 0 u (lay S.safe p l) ∧ W1.grownBy W (Value.slice fo fl fc).ownBlock ∧ (u.ownBlock = (Value.slice fo fl fc).ownBlock ∨ u.ownBlock = some W1.heap.size)) d 3 r w5 := hI.at_ 3 (.inr ⟨by decide, h2 18 (by decide) (by decide +kernel)⟩) (.inr ⟨by decide, hri⟩)
              obtain ⟨v0, u0, W, hv0, hu0, hP, hw⟩ := hA
              obtain rfl : u0 = u50 := Option.some.inj (hu0.symm.trans hu50)
              have hP2 := hP
              obtain ⟨W1, ho1, hg1, hk1, ho2, hg2, hk2⟩ := hP
              obtain ⟨va, vc, rfl, _⟩ := ho2.rd.shape
              have hb := ((HM.out.blk.grown hg1 (fun e => HM.out.ns e.symm)).grown hg2 (fun e => HM.out.nf e.symm)).set 1 v0
              subst hw
              exact doesZ_store (by decide) rfl 33 (.tmp 54) (.tmp 50) rfl d 2 e54 (.slice va _ vc) e50 rfl rfl 58 (_) hb (show 2 < 9 by omega) (by kernel_rfl) rfl (fun v => hI.next 3 21 v rfl (by decide) (.inr ⟨by decide, h2 18 (by decide) (by decide +kernel)⟩) hri (by decide) (⟨v0, _, W, hP2, rfl⟩))
          · intro vs r w5 hI hS hv
            obtain ⟨v, u, W, ⟨W1, o1, g1, k1, o2, g2, k2⟩, hw5⟩ := hI.at_ 4 (.inr ⟨by decide, hS 21 (by decide)⟩) (.inl rfl)
            have m1 := mem_edit HM.out o1 g1 k1 o2 g2 k2
            have hln : l ≠ [] := fun e => HB0.out (by rw [HBL.out, e]; rfl)
            rw [← hw5, lay_laid _ _ _ hln, lay_laid _ _ _ hln] at m1
            have GG := Lib.hid (show Gone w d (.slice so sl sc) (.slice fo fl fc) lv { S with seen := laid S.seen (p : Int).toNat l, safe := laid S.safe (p : Int).toNat l } w5 from ⟨_, _, _, _, m1.1, V1.out.trans m1.2⟩)
            clear hI hS hv o1 g1 k1 o2 g2 k2 hw5 m1
            simp only [putOps, Act.put, List.setIfInBounds_toArray, List.set_cons_zero, List.set_cons_succ]
            go_wp2_with fail
            exact bodyPost_end (results_none rfl _ _ _) rfl ⟨rfl, GG.out⟩
end Go.Proofs.Ytipdcocliefppaa
/- A clone of the program's device: contract. Written by gen_devpclone.py. Own work. -/
namespace Go.Proofs.Ytipdcocliefppaa
open Go.ChangeShapes Go.WideShapes Go.ChangeAt Go.RowKit
open DM
theorem owned_lower {w : World} {B b k n : Nat} {e : TypeId} {v : Value} {cs : List Value} (h : w.ownsRow B e k v n cs) (hb : b ≤ B) : w.ownsRow b e k v n cs := ⟨h.1, h.2.imp id (fun ⟨g, cap, cur, x, y, r⟩ => ⟨g, cap, cur, x, Nat.le_trans hb y, r⟩)⟩
/-- Three calls, and a store of what each one told into block c. -/
def K6 (w0 : World) (P1 : Value → World → Prop) (P2 : Value → Value → World → Prop) (P3 : Value → Value → Value → World → Prop) (c : Nat) : Nat → Told → World → Prop
  | 0, _, w => w = w0
  | 1, r, w => ∃ x, r 4 = some x ∧ P1 x w
  | 2, r, w => ∃ x y, r 4 = some x ∧ r 9 = some y ∧ P2 x y w
  | 3, r, w => ∃ x y z, r 4 = some x ∧ r 9 = some y ∧ r 14 = some z ∧ P3 x y z w
  | 4, r, w => ∃ x y z W, r 4 = some x ∧ r 9 = some y ∧ r 14 = some z ∧ P3 x y z W ∧ w = W.setCell ⟨c, 1, none⟩ x
  | 5, r, w => ∃ x y z W, r 4 = some x ∧ r 9 = some y ∧ r 14 = some z ∧ P3 x y z W ∧ w = (W.setCell ⟨c, 1, none⟩ x).setCell ⟨c, 2, none⟩ y
  | _, _, w => ∃ x y z W, P3 x y z W ∧ w = ((W.setCell ⟨c, 1, none⟩ x).setCell ⟨c, 2, none⟩ y).setCell ⟨c, 3, none⟩ z
set_option maxRecDepth 100000 in
set_option maxHeartbeats 2000000 in
theorem pdclone_any (w : World) (d : Nat) (S : DS) (sv fv lv : Value) (t : Bool) (h : Mem w d S sv fv lv t) (hll : S.loose.length ≤ 34359738368) :
    Calls Try.prog 13 #[.pointer (some ⟨d, 0, none⟩)] w fun e w' => ∃ c s2 f2 l2, e = .returned (.pointer (some ⟨c, 0, none⟩)) ∧ Mem w' c S s2 f2 l2 t ∧ Below w.heap.size w w' ∧ ∀ k, Blks c s2 f2 l2 k → w.heap.size ≤ k := by
  obtain ⟨so, sc, rfl, _⟩ := h.seen.rd.shape
  obtain ⟨fo, fc, rfl, _⟩ := h.safe.rd.shape
  obtain ⟨lo, lc, hlv, _⟩ := (owned_rd h.loose).shape
  obtain ⟨sl, hsl⟩ : ∃ n, n = S.seen.length := ⟨_, rfl⟩
  obtain ⟨fl, hfl⟩ : ∃ n, n = S.safe.length := ⟨_, rfl⟩
  obtain ⟨n, hn⟩ : ∃ n, n = S.loose.length := ⟨_, rfl⟩
  rw [← hn] at hlv hll
  subst hlv
  rw [← hsl, ← hfl] at h
  have c0 := h.c0
  have c1 := h.c1
  have c2 := h.c2
  have c3 := h.c3
  have c4 := h.c4
  have c5 := h.c5
  have c6 := h.c6
  have c7 := h.c7
  have c8 := h.c8
  have H := Lib.hid h
  have HN := Lib.hid hn
  have hdl := h.blk.lt
  have HDL := Lib.hid hdl
  clear h hn hsl hfl
  go_enter Try.func13, Try.ntmps13
  go_upto_region 4 with fail
  obtain ⟨W0, hW0⟩ : ∃ W0, W0 = w.alloc (.cells #[.int .i64 (S.most : Int), .slice so sl sc, .slice fo fl fc, .slice lo n lc, .int .i64 (S.steps : Int), .bool S.down, .bool t, .int .i64 (S.after : Int), .bool S.done] 58) := ⟨_, rfl⟩
  rw [← hW0]
  obtain ⟨c, hc⟩ : ∃ c, c = w.heap.size := ⟨_, rfl⟩
  rw [← hc]
  have hcb0 : Blk W0 c 58 (dvc S (.slice so sl sc) (.slice fo fl fc) (.slice lo n lc) t) := by rw [hW0]; exact Blk.new w _ (dvc S (.slice so sl sc) (.slice fo fl fc) (.slice lo n lc) t) _ hc
  have b0 : Below w.heap.size w W0 := by rw [hW0]; exact (Below.refl _ w).alloc (Nat.le_refl _) _
  have hz0 : W0.heap.size = w.heap.size + 1 := by rw [hW0]; simp
  obtain ⟨w1, hw1⟩ : ∃ w1, w1 = W0.drew := ⟨_, rfl⟩
  have HW1 := Lib.hid hw1
  have BW := Lib.hid (show Below w.heap.size w w1 by rw [hw1]; exact b0.on (Below.refl _ _).drew)
  have HCB := Lib.hid (show Blk w1 c 58 (dvc S (.slice so sl sc) (.slice fo fl fc) (.slice lo n lc) t) by rw [hw1]; exact hcb0.below (Below.refl _ _).drew hcb0.lt)
  have HM := Lib.hid (show Mem w1 d S (.slice so sl sc) (.slice fo fl fc) (.slice lo n lc) t from H.out.below BW.out)
  have HCL := Lib.hid (show c < w1.heap.size by rw [hw1]; show c < W0.heap.size; omega)
  have HCW := Lib.hid hc
  have HLR := Lib.hid (show RdT 514 w1 (.slice lo n lc) n (lwcs S.loose) by have := owned_rd HM.out.loose; rw [← HN.out] at this; exact this)
  have HK1 := Lib.hid (show Calls Try.prog 37 #[.slice so sl sc] w1 fun e w' => ∃ v, e = .returned v ∧ (fun x W => Own W w1.heap.size x S.seen ∧ Below w1.heap.size w1 W) v w' from (pclone_any _ _ w1 HM.out.seen.rd).mono fun e w' ⟨y, he, o, b, _⟩ => ⟨y, he, o, b⟩)
  have HK2 := Lib.hid (fun (x : Value) (W : World) (o : Own W w1.heap.size x S.seen) (b : Below w1.heap.size w1 W) => (show Calls Try.prog 37 #[.slice fo fl fc] W fun e w' => ∃ v, e = .returned v ∧ (fun x y W => Own W w1.heap.size x S.seen ∧ Own W w1.heap.size y S.safe ∧ Below w1.heap.size w1 W ∧ ∀ g, x.ownBlock = some g → y.ownBlock ≠ some g) x v w' from (pclone_any _ _ W (HM.out.safe.below b).rd).mono fun e w' ⟨y, he, o2, b2, n2⟩ => ⟨y, he, o.below b2, o2.lower b.size, b.on b2, fun g e q => by have := (o.from g e).2; have := n2 g q; omega⟩))
  have HK3 := Lib.hid (fun (x y : Value) (W : World) (h : (fun x y W => Own W w1.heap.size x S.seen ∧ Own W w1.heap.size y S.safe ∧ Below w1.heap.size w1 W ∧ ∀ g, x.ownBlock = some g → y.ownBlock ≠ some g) x y W) => (show Calls Try.prog 38 #[.slice lo n lc] W fun e w' => ∃ v, e = .returned v ∧ (fun x y z W => Own W w1.heap.size x S.seen ∧ Own W w1.heap.size y S.safe ∧ W.ownsRow w1.heap.size 70 514 z n (lwcs S.loose) ∧ Below w1.heap.size w1 W ∧ (∀ g, x.ownBlock = some g → y.ownBlock ≠ some g) ∧ (∀ g, x.ownBlock = some g → z.ownBlock ≠ some g) ∧ ∀ g, y.ownBlock = some g → z.ownBlock ≠ some g) x y v w' from (pclonew_any _ _ _ W (HLR.out.below h.2.2.1) (lwcs_one _) hll).mono fun e w' ⟨z, he, o3, b3, n3⟩ => ⟨z, he, h.1.below b3, h.2.1.below b3, owned_lower o3 h.2.2.1.size, h.2.2.1.on b3, h.2.2.2, fun g e q => by have := (h.1.from g e).2; have := n3 g q; omega, fun g e q => by have := (h.2.1.from g e).2; have := n3 g q; omega⟩))
  clear hw1 hW0 hcb0 b0 hz0 hc
  refine wp_region_z (by kernel_rfl) [4, 9, 14, 16, 18, 20] (by kernel_rfl) (by kernel_rfl) (Stg [4, 9, 14, 16, 18, 20] (K6 w1 (fun x W => Own W w1.heap.size x S.seen ∧ Below w1.heap.size w1 W) (fun x y W => Own W w1.heap.size x S.seen ∧ Own W w1.heap.size y S.safe ∧ Below w1.heap.size w1 W ∧ ∀ g, x.ownBlock = some g → y.ownBlock ≠ some g) (fun x y z W => Own W w1.heap.size x S.seen ∧ Own W w1.heap.size y S.safe ∧ W.ownsRow w1.heap.size 70 514 z n (lwcs S.loose) ∧ Below w1.heap.size w1 W ∧ (∀ g, x.ownBlock = some g → y.ownBlock ≠ some g) ∧ (∀ g, x.ownBlock = some g → z.ownBlock ≠ some g) ∧ ∀ g, y.ownBlock = some g → z.ownBlock ≠ some g) c)) [.pre (.pointer (some ⟨d, 0, none⟩)), .pre (.pointer (some ⟨d, 0, none⟩)), .pre (.pointer (some ⟨d, 1, none⟩)), .pre (.slice so sl sc), .of 4 (fun u v => v = u), .pre (.pointer (some ⟨d, 0, none⟩)), .pre (.pointer (some ⟨d, 0, none⟩)), .pre (.pointer (some ⟨d, 2, none⟩)), .pre (.slice fo fl fc), .of 9 (fun u v => v = u), .pre (.pointer (some ⟨d, 0, none⟩)), .pre (.pointer (some ⟨d, 0, none⟩)), .pre (.pointer (some ⟨d, 3, none⟩)), .pre (.slice lo n lc), .of 14 (fun u v => v = u), .pre (.pointer (some ⟨c, 1, none⟩)), .any, .pre (.pointer (some ⟨c, 2, none⟩)), .any, .pre (.pointer (some ⟨c, 3, none⟩)), .any] (fun i hi hq => by
        simp only [List.mem_cons, List.mem_nil_iff, or_false] at hi
        rcases hi with rfl | rfl | rfl | rfl | rfl | rfl
        · exact absurd hq (by decide +kernel)
        · exact absurd hq (by decide +kernel)
        · exact absurd hq (by decide +kernel)
        · rfl
        · rfl
        · rfl) (Stg.zero (show _ = w1 from HW1.out.symm)) ?_ ?_
  · refine ⟨?_, ?_, ?_, ?_, ?_, ?_, ?_, ?_, ?_, ?_, ?_, ?_, ?_, ?_, ?_, ?_, ?_, ?_, ?_, ?_, ?_, trivial⟩
    · intro a w5 r hF hI hns hri h1 h2 hd
      have e0 : a.eval (.tmp 0) = .pointer (some ⟨d, 0, none⟩) := hF 0 (by decide +kernel)
      exact doesZ_read (v := .pointer (some ⟨d, 0, none⟩)) (by decide) rfl (ex_move rfl e0) hI rfl
    · intro a w5 r hF hI hns hri h1 h2 hd
      have e9 : a.eval (.tmp 9) = .pointer (some ⟨d, 0, none⟩) := hd 0 (by decide +kernel)
      exact doesZ_read (v := .pointer (some ⟨d, 0, none⟩)) (by decide) rfl (ex_nilCheck rfl e9) hI rfl
    · intro a w5 r hF hI hns hri h1 h2 hd
      have e10 : a.eval (.tmp 10) = .pointer (some ⟨d, 0, none⟩) := hd 1 (by decide +kernel)
      exact doesZ_read (v := .pointer (some ⟨d, 1, none⟩)) (by decide) rfl (ex_fieldAddr rfl e10 (by go_simp)) hI rfl
    · intro a w5 r hF hI hns hri h1 h2 hd
      have e11 : a.eval (.tmp 11) = .pointer (some ⟨d, 1, none⟩) := hd 2 (by decide +kernel)
      have hA : K6 w1 (fun x W => Own W w1.heap.size x S.seen ∧ Below w1.heap.size w1 W) (fun x y W => Own W w1.heap.size x S.seen ∧ Own W w1.heap.size y S.safe ∧ Below w1.heap.size w1 W ∧ ∀ g, x.ownBlock = some g → y.ownBlock ≠ some g) (fun x y z W => Own W w1.heap.size x S.seen ∧ Own W w1.heap.size y S.safe ∧ W.ownsRow w1.heap.size 70 514 z n (lwcs S.loose) ∧ Below w1.heap.size w1 W ∧ (∀ g, x.ownBlock = some g → y.ownBlock ≠ some g) ∧ (∀ g, x.ownBlock = some g → z.ownBlock ≠ some g) ∧ ∀ g, y.ownBlock = some g → z.ownBlock ≠ some g) c 0 r w5 := hI.at_ 0 (.inl rfl) (.inr ⟨by decide, h1 4 (by decide) (by decide +kernel)⟩)
      have hw : w5 = w1 := hA
      subst hw
      have c1 := HM.out.c1
      exact doesZ_read (v := .slice so sl sc) (by decide) rfl (by unfold execOp; simp only [e11]; go_simp) hI rfl
    · intro a w5 r hF hI hns hri h1 h2 hd
      have e12 : a.eval (.tmp 12) = .slice so sl sc := hd 3 (by decide +kernel)
      have hA : K6 w1 (fun x W => Own W w1.heap.size x S.seen ∧ Below w1.heap.size w1 W) (fun x y W => Own W w1.heap.size x S.seen ∧ Own W w1.heap.size y S.safe ∧ Below w1.heap.size w1 W ∧ ∀ g, x.ownBlock = some g → y.ownBlock ≠ some g) (fun x y z W => Own W w1.heap.size x S.seen ∧ Own W w1.heap.size y S.safe ∧ W.ownsRow w1.heap.size 70 514 z n (lwcs S.loose) ∧ Below w1.heap.size w1 W ∧ (∀ g, x.ownBlock = some g → y.ownBlock ≠ some g) ∧ (∀ g, x.ownBlock = some g → z.ownBlock ≠ some g) ∧ ∀ g, y.ownBlock = some g → z.ownBlock ≠ some g) c 0 r w5 := hI.at_ 0 (.inl rfl) (.inr ⟨by decide, hri⟩)
      have hw : w5 = w1 := hA
      subst hw
      exact doesZ_call (by decide) rfl (ex_call (vs := #[.slice so sl sc]) rfl (by simp only [List.map_toArray, List.map_cons, List.map_nil, e12]) (by go_simp)) (HK1.out.mono fun e w6 hh => by obtain ⟨v, he, hl⟩ := hh; exact ⟨v, he, hI.next 0 4 v rfl (by decide) (.inl rfl) hri (by decide) (⟨v, Told.set_same _ _ _, hl⟩), v, Told.set_same _ _ _, rfl⟩)
    · intro a w5 r hF hI hns hri h1 h2 hd
      have e0 : a.eval (.tmp 0) = .pointer (some ⟨d, 0, none⟩) := hF 0 (by decide +kernel)
      exact doesZ_read (v := .pointer (some ⟨d, 0, none⟩)) (by decide) rfl (ex_move rfl e0) hI rfl
    · intro a w5 r hF hI hns hri h1 h2 hd
      have e14 : a.eval (.tmp 14) = .pointer (some ⟨d, 0, none⟩) := hd 5 (by decide +kernel)
      exact doesZ_read (v := .pointer (some ⟨d, 0, none⟩)) (by decide) rfl (ex_nilCheck rfl e14) hI rfl
    · intro a w5 r hF hI hns hri h1 h2 hd
      have e15 : a.eval (.tmp 15) = .pointer (some ⟨d, 0, none⟩) := hd 6 (by decide +kernel)
      exact doesZ_read (v := .pointer (some ⟨d, 2, none⟩)) (by decide) rfl (ex_fieldAddr rfl e15 (by go_simp)) hI rfl
    · intro a w5 r hF hI hns hri h1 h2 hd
      have e16 : a.eval (.tmp 16) = .pointer (some ⟨d, 2, none⟩) := hd 7 (by decide +kernel)
      obtain ⟨k, hk1, hk2, hA⟩ : ∃ k, 0 ≤ k ∧ k ≤ 1 ∧ K6 w1 (fun x W => Own W w1.heap.size x S.seen ∧ Below w1.heap.size w1 W) (fun x y W => Own W w1.heap.size x S.seen ∧ Own W w1.heap.size y S.safe ∧ Below w1.heap.size w1 W ∧ ∀ g, x.ownBlock = some g → y.ownBlock ≠ some g) (fun x y z W => Own W w1.heap.size x S.seen ∧ Own W w1.heap.size y S.safe ∧ W.ownsRow w1.heap.size 70 514 z n (lwcs S.loose) ∧ Below w1.heap.size w1 W ∧ (∀ g, x.ownBlock = some g → y.ownBlock ≠ some g) ∧ (∀ g, x.ownBlock = some g → z.ownBlock ≠ some g) ∧ ∀ g, y.ownBlock = some g → z.ownBlock ≠ some g) c k r w5 := hI.between 0 1 (.inl rfl) (.inr ⟨by decide, h1 9 (by decide) (by decide +kernel)⟩)
      have c2 : w5.cell? ⟨d, 2, none⟩ = some (.slice fo fl fc) := by
        rcases (show k = 0 ∨ k = 1 by omega) with rfl | rfl
        · have hw : w5 = w1 := hA
          rw [hw]; exact HM.out.c2
        · obtain ⟨_, _, _, hb⟩ := hA
          exact (HM.out.blk.below hb HM.out.blk.lt).cell 2 _ rfl
      exact doesZ_read (v := .slice fo fl fc) (by decide) rfl (by unfold execOp; simp only [e16]; go_simp) hI rfl
    · intro a w5 r hF hI hns hri h1 h2 hd
      have e17 : a.eval (.tmp 17) = .slice fo fl fc := hd 8 (by decide +kernel)
      have hA : K6 w1 (fun x W => Own W w1.heap.size x S.seen ∧ Below w1.heap.size w1 W) (fun x y W => Own W w1.heap.size x S.seen ∧ Own W w1.heap.size y S.safe ∧ Below w1.heap.size w1 W ∧ ∀ g, x.ownBlock = some g → y.ownBlock ≠ some g) (fun x y z W => Own W w1.heap.size x S.seen ∧ Own W w1.heap.size y S.safe ∧ W.ownsRow w1.heap.size 70 514 z n (lwcs S.loose) ∧ Below w1.heap.size w1 W ∧ (∀ g, x.ownBlock = some g → y.ownBlock ≠ some g) ∧ (∀ g, x.ownBlock = some g → z.ownBlock ≠ some g) ∧ ∀ g, y.ownBlock = some g → z.ownBlock ≠ some g) c 1 r w5 := hI.at_ 1 (.inr ⟨by decide, h2 4 (by decide) (by decide +kernel)⟩) (.inr ⟨by decide, hri⟩)
      obtain ⟨x0, hx0, ho1, hb1⟩ := hA
      exact doesZ_call (by decide) rfl (ex_call (vs := #[.slice fo fl fc]) rfl (by simp only [List.map_toArray, List.map_cons, List.map_nil, e17]) (by go_simp)) ((HK2.out x0 w5 ho1 hb1).mono fun e w6 hh => by obtain ⟨v, he, hl⟩ := hh; exact ⟨v, he, hI.next 1 9 v rfl (by decide) (.inr ⟨by decide, h2 4 (by decide) (by decide +kernel)⟩) hri (by decide) (⟨x0, v, (Told.set_ne (by decide)).trans hx0, Told.set_same _ _ _, hl⟩), v, Told.set_same _ _ _, rfl⟩)
    · intro a w5 r hF hI hns hri h1 h2 hd
      have e0 : a.eval (.tmp 0) = .pointer (some ⟨d, 0, none⟩) := hF 0 (by decide +kernel)
      exact doesZ_read (v := .pointer (some ⟨d, 0, none⟩)) (by decide) rfl (ex_move rfl e0) hI rfl
    · intro a w5 r hF hI hns hri h1 h2 hd
      have e19 : a.eval (.tmp 19) = .pointer (some ⟨d, 0, none⟩) := hd 10 (by decide +kernel)
      exact doesZ_read (v := .pointer (some ⟨d, 0, none⟩)) (by decide) rfl (ex_nilCheck rfl e19) hI rfl
    · intro a w5 r hF hI hns hri h1 h2 hd
      have e20 : a.eval (.tmp 20) = .pointer (some ⟨d, 0, none⟩) := hd 11 (by decide +kernel)
      exact doesZ_read (v := .pointer (some ⟨d, 3, none⟩)) (by decide) rfl (ex_fieldAddr rfl e20 (by go_simp)) hI rfl
    · intro a w5 r hF hI hns hri h1 h2 hd
      have e21 : a.eval (.tmp 21) = .pointer (some ⟨d, 3, none⟩) := hd 12 (by decide +kernel)
      obtain ⟨k, hk1, hk2, hA⟩ : ∃ k, 0 ≤ k ∧ k ≤ 2 ∧ K6 w1 (fun x W => Own W w1.heap.size x S.seen ∧ Below w1.heap.size w1 W) (fun x y W => Own W w1.heap.size x S.seen ∧ Own W w1.heap.size y S.safe ∧ Below w1.heap.size w1 W ∧ ∀ g, x.ownBlock = some g → y.ownBlock ≠ some g) (fun x y z W => Own W w1.heap.size x S.seen ∧ Own W w1.heap.size y S.safe ∧ W.ownsRow w1.heap.size 70 514 z n (lwcs S.loose) ∧ Below w1.heap.size w1 W ∧ (∀ g, x.ownBlock = some g → y.ownBlock ≠ some g) ∧ (∀ g, x.ownBlock = some g → z.ownBlock ≠ some g) ∧ ∀ g, y.ownBlock = some g → z.ownBlock ≠ some g) c k r w5 := hI.between 0 2 (.inl rfl) (.inr ⟨by decide, h1 14 (by decide) (by decide +kernel)⟩)
      have c3 : w5.cell? ⟨d, 3, none⟩ = some (.slice lo n lc) := by
        rcases (show k = 0 ∨ k = 1 ∨ k = 2 by omega) with rfl | rfl | rfl
        · have hw : w5 = w1 := hA
          rw [hw]; exact HM.out.c3
        · obtain ⟨_, _, _, hb⟩ := hA
          exact (HM.out.blk.below hb HM.out.blk.lt).cell 3 _ rfl
        · obtain ⟨_, _, _, _, _, _, hb, _⟩ := hA
          exact (HM.out.blk.below hb HM.out.blk.lt).cell 3 _ rfl
      exact doesZ_read (v := .slice lo n lc) (by decide) rfl (by unfold execOp; simp only [e21]; go_simp) hI rfl
    · intro a w5 r hF hI hns hri h1 h2 hd
      have e22 : a.eval (.tmp 22) = .slice lo n lc := hd 13 (by decide +kernel)
      have hA : K6 w1 (fun x W => Own W w1.heap.size x S.seen ∧ Below w1.heap.size w1 W) (fun x y W => Own W w1.heap.size x S.seen ∧ Own W w1.heap.size y S.safe ∧ Below w1.heap.size w1 W ∧ ∀ g, x.ownBlock = some g → y.ownBlock ≠ some g) (fun x y z W => Own W w1.heap.size x S.seen ∧ Own W w1.heap.size y S.safe ∧ W.ownsRow w1.heap.size 70 514 z n (lwcs S.loose) ∧ Below w1.heap.size w1 W ∧ (∀ g, x.ownBlock = some g → y.ownBlock ≠ some g) ∧ (∀ g, x.ownBlock = some g → z.ownBlock ≠ some g) ∧ ∀ g, y.ownBlock = some g → z.ownBlock ≠ some g) c 2 r w5 := hI.at_ 2 (.inr ⟨by decide, h2 9 (by decide) (by decide +kernel)⟩) (.inr ⟨by decide, hri⟩)
      obtain ⟨x0, y0, hx0, hy0, hP⟩ := hA
      exact doesZ_call (by decide) rfl (ex_call (vs := #[.slice lo n lc]) rfl (by simp only [List.map_toArray, List.map_cons, List.map_nil, e22]) (by go_simp)) ((HK3.out x0 y0 w5 hP).mono fun e w6 hh => by obtain ⟨v, he, hl⟩ := hh; exact ⟨v, he, hI.next 2 14 v rfl (by decide) (.inr ⟨by decide, h2 9 (by decide) (by decide +kernel)⟩) hri (by decide) (⟨x0, y0, v, (Told.set_ne (by decide)).trans hx0, (Told.set_ne (by decide)).trans hy0, Told.set_same _ _ _, hl⟩), v, Told.set_same _ _ _, rfl⟩)
    · intro a w5 r hF hI hns hri h1 h2 hd
      have e3 : a.eval (.tmp 3) = .pointer (some ⟨c, 0, none⟩) := hF 3 (by decide +kernel)
      exact doesZ_read (v := .pointer (some ⟨c, 1, none⟩)) (by decide) rfl (ex_fieldAddr rfl e3 (by go_simp)) hI rfl
    · intro a w5 r hF hI hns hri h1 h2 hd
      have e24 : a.eval (.tmp 24) = .pointer (some ⟨c, 1, none⟩) := hd 15 (by decide +kernel)
      obtain ⟨u13, hu13, e13⟩ : ∃ u, r 4 = some u ∧ a.eval (.tmp 13) = u := hd 4 (by decide +kernel)
      have hA : K6 w1 (fun x W => Own W w1.heap.size x S.seen ∧ Below w1.heap.size w1 W) (fun x y W => Own W w1.heap.size x S.seen ∧ Own W w1.heap.size y S.safe ∧ Below w1.heap.size w1 W ∧ ∀ g, x.ownBlock = some g → y.ownBlock ≠ some g) (fun x y z W => Own W w1.heap.size x S.seen ∧ Own W w1.heap.size y S.safe ∧ W.ownsRow w1.heap.size 70 514 z n (lwcs S.loose) ∧ Below w1.heap.size w1 W ∧ (∀ g, x.ownBlock = some g → y.ownBlock ≠ some g) ∧ (∀ g, x.ownBlock = some g → z.ownBlock ≠ some g) ∧ ∀ g, y.ownBlock = some g → z.ownBlock ≠ some g) c 3 r w5 := hI.at_ 3 (.inr ⟨by decide, h2 14 (by decide) (by decide +kernel)⟩) (.inr ⟨by decide, hri⟩)
      obtain ⟨x0, y0, z0, hx0, hy0, hz0, hP⟩ := hA
      obtain rfl : x0 = u13 := Option.some.inj (hx0.symm.trans hu13)
      have hP2 := hP
      obtain ⟨ho1, _, _, hB, _⟩ := hP
      obtain ⟨va, vc, rfl, _⟩ := ho1.rd.shape
      have hb := HCB.out.below hB HCB.out.lt
      exact doesZ_store (by decide) rfl 33 (.tmp 24) (.tmp 13) rfl c 1 e24 (.slice va _ vc) e13 rfl rfl 58 (_) hb (show 1 < 9 by omega) (by kernel_rfl) rfl (fun v => hI.next 3 16 v rfl (by decide) (.inr ⟨by decide, h2 14 (by decide) (by decide +kernel)⟩) hri (by decide) (⟨_, y0, z0, w5, (Told.set_ne (by decide)).trans hx0, (Told.set_ne (by decide)).trans hy0, (Told.set_ne (by decide)).trans hz0, hP2, rfl⟩))
    · intro a w5 r hF hI hns hri h1 h2 hd
      have e3 : a.eval (.tmp 3) = .pointer (some ⟨c, 0, none⟩) := hF 3 (by decide +kernel)
      exact doesZ_read (v := .pointer (some ⟨c, 2, none⟩)) (by decide) rfl (ex_fieldAddr rfl e3 (by go_simp)) hI rfl
    · intro a w5 r hF hI hns hri h1 h2 hd
      have e25 : a.eval (.tmp 25) = .pointer (some ⟨c, 2, none⟩) := hd 17 (by decide +kernel)
      obtain ⟨u18, hu18, e18⟩ : ∃ u, r 9 = some u ∧ a.eval (.tmp 18) = u := hd 9 (by decide +kernel)
      have hA : K6 w1 (fun x W => Own W w1.heap.size x S.seen ∧ Below w1.heap.size w1 W) (fun x y W => Own W w1.heap.size x S.seen ∧ Own W w1.heap.size y S.safe ∧ Below w1.heap.size w1 W ∧ ∀ g, x.ownBlock = some g → y.ownBlock ≠ some g) (fun x y z W => Own W w1.heap.size x S.seen ∧ Own W w1.heap.size y S.safe ∧ W.ownsRow w1.heap.size 70 514 z n (lwcs S.loose) ∧ Below w1.heap.size w1 W ∧ (∀ g, x.ownBlock = some g → y.ownBlock ≠ some g) ∧ (∀ g, x.ownBlock = some g → z.ownBlock ≠ some g) ∧ ∀ g, y.ownBlock = some g → z.ownBlock ≠ some g) c 4 r w5 := hI.at_ 4 (.inr ⟨by decide, h2 16 (by decide) (by decide +kernel)⟩) (.inr ⟨by decide, hri⟩)
      obtain ⟨x0, y0, z0, W, hx0, hy0, hz0, hP, hw⟩ := hA
      obtain rfl : y0 = u18 := Option.some.inj (hy0.symm.trans hu18)
      have hP2 := hP
      obtain ⟨_, ho1, _, hB, _⟩ := hP
      obtain ⟨va, vc, rfl, _⟩ := ho1.rd.shape
      have hb := (HCB.out.below hB HCB.out.lt).set 1 x0
      subst hw
      exact doesZ_store (by decide) rfl 33 (.tmp 25) (.tmp 18) rfl c 2 e25 (.slice va _ vc) e18 rfl rfl 58 (_) hb (show 2 < 9 by omega) (by kernel_rfl) rfl (fun v => hI.next 4 18 v rfl (by decide) (.inr ⟨by decide, h2 16 (by decide) (by decide +kernel)⟩) hri (by decide) (⟨x0, _, z0, W, (Told.set_ne (by decide)).trans hx0, (Told.set_ne (by decide)).trans hy0, (Told.set_ne (by decide)).trans hz0, hP2, rfl⟩))
    · intro a w5 r hF hI hns hri h1 h2 hd
      have e3 : a.eval (.tmp 3) = .pointer (some ⟨c, 0, none⟩) := hF 3 (by decide +kernel)
      exact doesZ_read (v := .pointer (some ⟨c, 3, none⟩)) (by decide) rfl (ex_fieldAddr rfl e3 (by go_simp)) hI rfl
    · intro a w5 r hF hI hns hri h1 h2 hd
      have e26 : a.eval (.tmp 26) = .pointer (some ⟨c, 3, none⟩) := hd 19 (by decide +kernel)
      obtain ⟨u23, hu23, e23⟩ : ∃ u, r 14 = some u ∧ a.eval (.tmp 23) = u := hd 14 (by decide +kernel)
      have hA : K6 w1 (fun x W => Own W w1.heap.size x S.seen ∧ Below w1.heap.size w1 W) (fun x y W => Own W w1.heap.size x S.seen ∧ Own W w1.heap.size y S.safe ∧ Below w1.heap.size w1 W ∧ ∀ g, x.ownBlock = some g → y.ownBlock ≠ some g) (fun x y z W => Own W w1.heap.size x S.seen ∧ Own W w1.heap.size y S.safe ∧ W.ownsRow w1.heap.size 70 514 z n (lwcs S.loose) ∧ Below w1.heap.size w1 W ∧ (∀ g, x.ownBlock = some g → y.ownBlock ≠ some g) ∧ (∀ g, x.ownBlock = some g → z.ownBlock ≠ some g) ∧ ∀ g, y.ownBlock = some g → z.ownBlock ≠ some g) c 5 r w5 := hI.at_ 5 (.inr ⟨by decide, h2 18 (by decide) (by decide +kernel)⟩) (.inr ⟨by decide, hri⟩)
      obtain ⟨x0, y0, z0, W, hx0, hy0, hz0, hP, hw⟩ := hA
      obtain rfl : z0 = u23 := Option.some.inj (hz0.symm.trans hu23)
      have hP2 := hP
      obtain ⟨_, _, ho1, hB, _⟩ := hP
      obtain ⟨va, vc, rfl, _⟩ := (owned_rd ho1).shape
      have hb := ((HCB.out.below hB HCB.out.lt).set 1 x0).set 2 y0
      subst hw
      exact doesZ_store (by decide) rfl 54 (.tmp 26) (.tmp 23) rfl c 3 e26 (.slice va _ vc) e23 rfl rfl 58 (_) hb (show 3 < 9 by omega) (by kernel_rfl) rfl (fun v => hI.next 5 20 v rfl (by decide) (.inr ⟨by decide, h2 18 (by decide) (by decide +kernel)⟩) hri (by decide) (⟨x0, y0, _, W, hP2, rfl⟩))
  · intro vs r w5 hI hS hv
    obtain ⟨x, y, z, W, ⟨o1, o2, o3, b3, x1, x2, x3⟩, hw5⟩ := hI.at_ 6 (.inr ⟨by decide, hS 20 (by decide)⟩) (.inl rfl)
    have hcl := HCL.out
    have g5 : W.grownBy w5 (some c) := by rw [hw5]; exact only_trans (only_trans (grownBy_cell _ _ _ _) (grownBy_cell _ _ _ _)) (grownBy_cell _ _ _ _)
    have n1 : ∀ g, x.ownBlock = some g → w1.heap.size ≤ g := fun g e => (o1.from g e).1
    have n2 : ∀ g, y.ownBlock = some g → w1.heap.size ≤ g := fun g e => (o2.from g e).1
    have n3 : ∀ g, z.ownBlock = some g → w1.heap.size ≤ g := fun g e => (World.ownsRow.lt o3 g e).1
    have e1 : x.ownBlock ≠ some c := fun e => by have := n1 c e; omega
    have e2 : y.ownBlock ≠ some c := fun e => by have := n2 c e; omega
    have e3 : z.ownBlock ≠ some c := fun e => by have := n3 c e; omega
    have M5 := Lib.hid (show Mem w5 c S x y z t from ⟨by rw [hw5]; exact (((HCB.out.below b3 HCB.out.lt).set 1 x).set 2 y).set 3 z, (o1.lower (Nat.zero_le _)).keep g5 (.inr e1), (o2.lower (Nat.zero_le _)).keep g5 (.inr e2), by rw [← HN.out]; exact World.ownsRow.kept (owned_lower o3 (Nat.zero_le _)) g5 (.inr e3), H.out.tl, e1, e2, e3, x1, x2, x3⟩)
    have B5 := Lib.hid (show Below w.heap.size w w5 from (BW.out.on b3).grown g5 (BW.out.on b3).size (fun k hk => by have := Option.some.inj hk; have := HCW.out; omega))
    have N5 := Lib.hid (show ∀ k, Blks c x y z k → w.heap.size ≤ k from fun k hk => by
      have h1 := HCW.out
      rcases hk with q | q | q | q
      · omega
      · have := n1 k q; omega
      · have := n2 k q; omega
      · have := n3 k q; omega)
    clear hI hS hv o1 o2 o3 b3 x1 x2 x3 hw5 g5 n1 n2 n3 e1 e2 e3
    simp only [putOps, Act.put, List.setIfInBounds_toArray, List.set_cons_zero, List.set_cons_succ]
    go_wp2_with fail
    go_ret
    exact ⟨c, rfl, x, y, z, M5.out, B5.out, N5.out⟩
end Go.Proofs.Ytipdcocliefppaa
