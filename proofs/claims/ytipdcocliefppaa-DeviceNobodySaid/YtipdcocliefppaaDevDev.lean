/- The program's device as a law holds it. Own work. -/
import Derived.Test.YtipdcocliefppaaDevGE
import Derived.Test.YtipdcocliefppaaDevOk
namespace Go.Proofs.Ytipdcocliefppaa
open Go.ChangeShapes Go.WideShapes Go.ChangeAt Go.RowKit
open DM
/-- In block d lies a device that is as S says; it writes no block below B, and has nothing to do with the blocks A. -/
def Dev (B : Nat) (A : Nat → Prop) (w : World) (d : Nat) (S : DS) : Prop := ∃ F R, Dv w d F R S ∧ (∀ k, F k → B ≤ k) ∧ (∀ k, R k → ¬ A k) ∧ (∀ k, A k → k < w.heap.size) ∧ B ≤ w.heap.size
theorem Dev.below {B : Nat} {A : Nat → Prop} {w w' : World} {d : Nat} {S : DS} (h : Dev B A w d S) (hb : Below w.heap.size w w') : Dev B A w' d S := by
  obtain ⟨F, R, hd, h1, h2, h3, h4⟩ := h
  exact ⟨F, R, hd.keep hb.size (fun k hk => hb.block k (hd.sub.2 k hk)), h1, h2, fun k hk => Nat.lt_of_lt_of_le (h3 k hk) hb.size, Nat.le_trans h4 hb.size⟩
/-- What is made of new is none of the device's. -/
theorem Dev.own {B : Nat} {A : Nat → Prop} {w w' : World} {d : Nat} {S : DS} (h : Dev B A w d S) (hb : Below w.heap.size w w') : Dev B (fun k => A k ∨ (w.heap.size ≤ k ∧ k < w'.heap.size)) w' d S := by
  obtain ⟨F, R, hd, h1, h2, h3, h4⟩ := h
  refine ⟨F, R, hd.keep hb.size (fun k hk => hb.block k (hd.sub.2 k hk)), h1, fun k hk q => ?_, fun k hk => ?_, Nat.le_trans h4 hb.size⟩
  · have := hd.sub.2 k hk
    rcases q with q | q
    · exact h2 k hk q
    · omega
  · rcases hk with q | q
    · exact Nat.lt_of_lt_of_le (h3 k q) hb.size
    · exact q.2
/-- Blocks of the law's own may be turned. -/
theorem Dev.turn {B : Nat} {A : Nat → Prop} {w w' : World} {d : Nat} {S : DS} {row : Option Nat} (h : Dev B A w d S) (hg : w.grownBy w' row) (hA : ∀ g, row = some g → A g) : Dev B A w' d S := by
  obtain ⟨F, R, hd, h1, h2, h3, h4⟩ := h
  exact ⟨F, R, hd.keep hg.size (fun k hk => hg.block k (hd.sub.2 k hk) (fun e => h2 k hk (hA k e.symm))), h1, h2, fun k hk => Nat.lt_of_lt_of_le (h3 k hk) hg.size, Nat.le_trans h4 hg.size⟩
theorem Dev.size {B : Nat} {A : Nat → Prop} {w : World} {d : Nat} {S : DS} (h : Dev B A w d S) : B ≤ w.heap.size := by obtain ⟨_, _, _, _, _, _, h4⟩ := h; exact h4
theorem Dev.went {B : Nat} {A : Nat → Prop} {w w' : World} {d : Nat} {F R : Nat → Prop} {S : DS} (h1 : ∀ k, F k → B ≤ k) (hs : ∀ k, F k → R k) (h2 : ∀ k, R k → ¬ A k) (h3 : ∀ k, A k → k < w.heap.size) (h4 : B ≤ w.heap.size) (h : Went w d F R S w') : Dev B A w' d S ∧ Kept B A w w' := by
  obtain ⟨F', R', hd, f, r, t⟩ := h
  refine ⟨⟨F', R', hd, fun k hk => (f k hk).elim (h1 k) (fun q => Nat.le_trans h4 q), fun k hk q => (r k hk).elim (fun g => h2 k g q) (fun g => by have := h3 k q; omega), fun k hk => Nat.lt_of_lt_of_le (h3 k hk) t.size, Nat.le_trans h4 t.size⟩, t.os, t.tape, t.output, t.size, fun k hk q => t.block k hk fun g => ?_⟩
  rcases q with q | q
  · have := h1 k g; omega
  · exact h2 k (hs k g) q
theorem dev_new (n : Int) (hn : -9223372036854775808 ≤ n ∧ n ≤ 9223372036854775807) (B : Nat) (w : World) (hB : B ≤ w.heap.size) : Calls Try.prog 10 #[.int .i64 n] w fun e w' => ∃ d, e = .returned (.pointer (some ⟨d, 0, none⟩)) ∧ Dev B (fun k => B ≤ k ∧ k < w.heap.size) w' d (DM.new n) ∧ Below w.heap.size w w' :=
  (dnew_any n hn w).mono fun e w' ⟨d, F, R, he, hd, hr, hb⟩ => ⟨d, he, ⟨F, R, hd, fun k hk => Nat.le_trans hB (hr k (hd.sub.1 k hk)), fun k hk q => by have := hr k hk; omega, fun k hk => Nat.lt_of_lt_of_le hk.2 hb.size, Nat.le_trans hB hb.size⟩, hb⟩
section
variable (B : Nat) (A : Nat → Prop) (d : Nat) (S : DS) (w : World) (h : Dev B A w d S) (ht : Tame S)
include h ht
theorem dev_write (a : Int) (ha : -9223372036854775808 ≤ a ∧ a ≤ 9223372036854775807) (v : Value) (l : List Nat) (hv : Rd w v l) (hl : l.length ≤ 16777216) (hne : 0 < l.length → ∀ g, v.ownBlock = some g → g < B ∨ A g) : Calls Try.prog 19 #[.pointer (some ⟨d, 0, none⟩), .int .i64 a, v] w fun e w' => e = .returned (.int .i64 (DM.write S a l).2) ∧ Dev B A w' d ((DM.write S a l).1) ∧ Kept B A w w' := by
  obtain ⟨F, R, hd, h1, h2, h3, h4⟩ := h
  have hf : 0 < l.length → ∀ g, v.ownBlock = some g → ¬ F g := fun hl0 g hg q => (hne hl0 g hg).elim (fun r => by have := h1 g q; omega) (h2 g (hd.sub.1 g q))
  exact (dwrite_any d F R S w hd ht a ha v l hv hl hf).mono fun e w' ⟨he, hw⟩ => ⟨he, Dev.went h1 hd.sub.1 h2 h3 h4 hw⟩
theorem dev_sync : Calls Try.prog 20 #[.pointer (some ⟨d, 0, none⟩)] w fun e w' => e = .returned (.int .i64 (DM.sync S).2) ∧ Dev B A w' d ((DM.sync S).1) ∧ Kept B A w w' := by
  obtain ⟨F, R, hd, h1, h2, h3, h4⟩ := h
  exact (dsync_any d F R S w hd ht).mono fun e w' ⟨he, hw⟩ => ⟨he, Dev.went h1 hd.sub.1 h2 h3 h4 hw⟩
theorem dev_beat : Calls Try.prog 21 #[.pointer (some ⟨d, 0, none⟩)] w fun e w' => e = .returned (.int .i64 (DM.beat S).2) ∧ Dev B A w' d ((DM.beat S).1) ∧ Kept B A w w' := by
  obtain ⟨F, R, hd, h1, h2, h3, h4⟩ := h
  exact (dbeat_any d F R S w hd ht).mono fun e w' ⟨he, hw⟩ => ⟨he, Dev.went h1 hd.sub.1 h2 h3 h4 hw⟩
theorem dev_fail (a : Int) (ha : -9223372036854775808 ≤ a ∧ a ≤ 9223372036854775807) (x : Bool) : Calls Try.prog 27 #[.pointer (some ⟨d, 0, none⟩), .int .i64 a, .bool x] w fun e w' => e = .returned (.int .i64 (DM.fail S a x).2) ∧ Dev B A w' d ((DM.fail S a x).1) ∧ Kept B A w w' := by
  obtain ⟨F, R, hd, h1, h2, h3, h4⟩ := h
  exact (dfail_any d F R S w hd ht a ha x).mono fun e w' ⟨he, hw⟩ => ⟨he, Dev.went h1 hd.sub.1 h2 h3 h4 hw⟩
theorem dev_start (v : Value) (l : List Nat) (hv : Rd w v l) (hne : 0 < l.length → ∀ g, v.ownBlock = some g → g < B ∨ A g) : Calls Try.prog 15 #[.pointer (some ⟨d, 0, none⟩), v] w fun e w' => e = .returned (.tuple #[]) ∧ Dev B A w' d (DM.start S l) ∧ Kept B A w w' := by
  obtain ⟨F, R, hd, h1, h2, h3, h4⟩ := h
  have hf : 0 < l.length → ∀ g, v.ownBlock = some g → ¬ F g := fun hl0 g hg q => (hne hl0 g hg).elim (fun r => by have := h1 g q; omega) (h2 g (hd.sub.1 g q))
  exact (dstart_any d F R S w hd ht v l hv hf).mono fun e w' ⟨he, hw⟩ => ⟨he, Dev.went h1 hd.sub.1 h2 h3 h4 hw⟩
theorem dev_edit (a : Int) (ha : -9223372036854775808 ≤ a ∧ a ≤ 9223372036854775807) (v : Value) (l : List Nat) (hv : Rd w v l) (hl : l.length ≤ 16777216) (hne : 0 < l.length → ∀ g, v.ownBlock = some g → g < B ∨ A g) : Calls Try.prog 16 #[.pointer (some ⟨d, 0, none⟩), .int .i64 a, v] w fun e w' => e = .returned (.tuple #[]) ∧ Dev B A w' d (DM.edit S a l) ∧ Kept B A w w' := by
  obtain ⟨F, R, hd, h1, h2, h3, h4⟩ := h
  have hf : 0 < l.length → ∀ g, v.ownBlock = some g → ¬ F g := fun hl0 g hg q => (hne hl0 g hg).elim (fun r => by have := h1 g q; omega) (h2 g (hd.sub.1 g q))
  exact (dedit_any d F R S w hd ht a ha v l hv hl hf).mono fun e w' ⟨he, hw⟩ => ⟨he, Dev.went h1 hd.sub.1 h2 h3 h4 hw⟩
theorem dev_load (v : Value) (l : List Nat) (hv : Rd w v l) (hne : 0 < l.length → ∀ g, v.ownBlock = some g → g < B ∨ A g) : Calls Try.prog 17 #[.pointer (some ⟨d, 0, none⟩), v] w fun e w' => e = .returned (.tuple #[]) ∧ Dev B A w' d (DM.load S l) ∧ Kept B A w w' := by
  obtain ⟨F, R, hd, h1, h2, h3, h4⟩ := h
  have hf : 0 < l.length → ∀ g, v.ownBlock = some g → ¬ F g := fun hl0 g hg q => (hne hl0 g hg).elim (fun r => by have := h1 g q; omega) (h2 g (hd.sub.1 g q))
  exact (dload_any d F R S w hd ht v l hv hf).mono fun e w' ⟨he, hw⟩ => ⟨he, Dev.went h1 hd.sub.1 h2 h3 h4 hw⟩
theorem dev_size : Calls Try.prog 22 #[.pointer (some ⟨d, 0, none⟩)] w fun e w' => e = .returned (.int .i64 (S.seen.length : Int)) ∧ w' = w := by
  obtain ⟨F, R, hd, _⟩ := h
  exact dsize_any d F R S w hd ht
theorem dev_most : Calls Try.prog 23 #[.pointer (some ⟨d, 0, none⟩)] w fun e w' => e = .returned (.int .i64 (S.most : Int)) ∧ w' = w := by
  obtain ⟨F, R, hd, _⟩ := h
  exact dmost_any d F R S w hd ht
theorem dev_steps : Calls Try.prog 24 #[.pointer (some ⟨d, 0, none⟩)] w fun e w' => e = .returned (.int .i64 (S.steps : Int)) ∧ w' = w := by
  obtain ⟨F, R, hd, _⟩ := h
  exact dsteps_any d F R S w hd ht
theorem dev_down : Calls Try.prog 25 #[.pointer (some ⟨d, 0, none⟩)] w fun e w' => e = .returned (.bool S.down) ∧ w' = w := by
  obtain ⟨F, R, hd, _⟩ := h
  exact ddown_any d F R S w hd ht
theorem dev_loose : Calls Try.prog 26 #[.pointer (some ⟨d, 0, none⟩)] w fun e w' => e = .returned (.int .i64 (S.loose.length : Int)) ∧ w' = w := by
  obtain ⟨F, R, hd, _⟩ := h
  exact dloose_any d F R S w hd ht
theorem dev_read (a n : Int) (ha : -9223372036854775808 ≤ a ∧ a ≤ 9223372036854775807) (hn : -9223372036854775808 ≤ n ∧ n ≤ 9223372036854775807) : Calls Try.prog 18 #[.pointer (some ⟨d, 0, none⟩), .int .i64 a, .int .i64 n] w fun e w' => ∃ y, e = .returned (.tuple #[y, .int .i64 (DM.read S a n).2]) ∧ Own w' w.heap.size y (DM.read S a n).1 ∧ Below w.heap.size w w' := by
  obtain ⟨F, R, hd, _⟩ := h
  exact dread_any d F R S w hd ht a n ha hn
theorem dev_bytes : Calls Try.prog 28 #[.pointer (some ⟨d, 0, none⟩)] w fun e w' => ∃ y, e = .returned y ∧ Own w' w.heap.size y S.seen ∧ Below w.heap.size w w' := by
  obtain ⟨F, R, hd, _⟩ := h
  exact dbytes_any d F R S w hd ht
end
end Go.Proofs.Ytipdcocliefppaa
