/- The program's boxes, eight to a word; a byte's box, the way back, a byte doubled: contracts. Own work. -/
import Derived.Test.YtjemajenfkjelaaDoorAesRef
import Derived.Deep.DeepCutAuto
namespace Go.Proofs.YtjemajenfkjelaaDoor
open Go.ChangeShapes Go.WideShapes Go.ChangeAt Go.RowKit
open AM FM
namespace AM
/-- Eight bytes of a table as one number, the first one highest. -/
def word8 (f : Nat → Nat) (t : Nat) : Nat := ((((((f (8 * t) * 256 + f (8 * t + 1)) * 256 + f (8 * t + 2)) * 256 + f (8 * t + 3)) * 256 + f (8 * t + 4)) * 256 + f (8 * t + 5)) * 256 + f (8 * t + 6)) * 256 + f (8 * t + 7)
def wtab : List Nat := (List.range 32).map (word8 box)
def wuntab : List Nat := (List.range 32).map (word8 unb)
theorem wbox_all : ((List.range 256).all fun b => gb wtab (b / 8) / 2 ^ (8 * (7 - b % 8)) % 256 == box b) = true := by decide +kernel
theorem wunb_all : ((List.range 256).all fun b => gb wuntab (b / 8) / 2 ^ (8 * (7 - b % 8)) % 256 == unb b) = true := by decide +kernel
theorem wbox (b : Nat) (h : b < 256) : gb wtab (b / 8) / 2 ^ (8 * (7 - b % 8)) % 256 = box b := by
  have k := List.all_eq_true.1 wbox_all b (by simpa using h)
  simpa using k
theorem wunb (b : Nat) (h : b < 256) : gb wuntab (b / 8) / 2 ^ (8 * (7 - b % 8)) % 256 = unb b := by
  have k := List.all_eq_true.1 wunb_all b (by simpa using h)
  simpa using k
theorem wtab_all : ((List.range 32).all fun t => decide (gb wtab t < 18446744073709551616) && decide (gb wuntab t < 18446744073709551616)) = true := by decide +kernel
theorem wtab_lt (t : Nat) (h : t < 32) : gb wtab t < 18446744073709551616 ∧ gb wuntab t < 18446744073709551616 := by
  have k := List.all_eq_true.1 wtab_all t (by simpa using h)
  simpa using k
end AM
/-- The program's table of boxes, and the one of the way back, hold their constants. -/
def TabX (w : World) : Prop := ∀ t, t < 32 → w.cell? ⟨2, t, none⟩ = some (.int .u64 ((gb wtab t : Nat) : Int))
theorem TabX.lt {w : World} (h : TabX w) : 2 < w.heap.size := World.block_lt_of_cell? w _ (h 0 (by omega))
theorem TabX.keep {w w' : World} (h : TabX w) (hk : w'.heap[2]? = w.heap[2]?) : TabX w' := fun t ht => by
  rw [World.cell?_of_block (w := w) hk]; exact h t ht
theorem TabX.below {w w' : World} (h : TabX w) (hb : Below w.heap.size w w') : TabX w' := h.keep (hb.block _ h.lt)
theorem pow_word (V k x : Nat) (h : V / 2 ^ k % 256 = x) : (V : Int) / 2 ^ k % 256 = (x : Int) := by rw [← h, Int.natCast_emod, Int.natCast_ediv, Int.natCast_pow]; rfl
theorem sbox_eq (b : Nat) (hb : b < 256) (w : World) (hx : TabX w) :
    Calls Tryd.prog 49 #[.int .u8 (b : Int)] w fun e w' => e = .returned (.int .u8 ((box b : Nat) : Int)) ∧ w' = w := by
  have c := hx (b / 8) (by omega)
  have e := wbox b hb
  obtain ⟨V, hV⟩ : ∃ V, gb wtab (b / 8) = V := ⟨_, rfl⟩
  obtain ⟨r, hr⟩ : ∃ r, b % 8 = r := ⟨_, rfl⟩
  rw [hV] at c e
  rw [hr] at e
  have E := Lib.hid (pow_word V _ _ e)
  have l1 : (0 : Int) ≤ (b : Int) / 8 := by omega
  have l2 : (b : Int) / 8 < 32 := by omega
  have l3 : ((b : Int) / 8).toNat = b / 8 := by omega
  have l4 : (b : Int) % 8 = (r : Int) := by omega
  have l5 : (r : Int) ≤ 7 := by omega
  clear e hV hr
  go_enter Tryd.func49, Tryd.ntmps49
  go_wp2_with fail
  go_ret
  exact ⟨congrArg (fun x => Ending.returned (Value.int .u8 x)) E.out, rfl⟩
theorem sbox_any (b : Nat) (hb : b < 256) (w : World) (hx : TabX w) :
    Calls Tryd.prog 49 #[.int .u8 (b : Int)] w fun e w' => e = .returned (.int .u8 ((box b : Nat) : Int)) ∧ Below w.heap.size w w' :=
  (sbox_eq b hb w hx).mono fun _ _ h => ⟨h.1, by rw [h.2]; exact Below.refl _ _⟩
theorem info8a : (Tryd.prog.info? 5).map (·.size) = some 1 := by kernel_rfl
theorem agg8a : ∀ w, (isAgg 5).run Tryd.prog w = .ok false w := fun _ => by kernel_rfl
theorem dbl_any (a : Nat) (h : a < 256) (w : World) : Calls Tryd.prog 48 #[.int .u8 (a : Int)] w fun e w' => e = .returned (.int .u8 ((mul 2 a : Nat) : Int)) ∧ w' = w := by
  rw [← xt_mul a h]
  by_cases h2 : 128 ≤ a
  · have hI : (a : Int) / 128 = 1 := by omega
    have hx := xt_high a h h2
    go_enter Tryd.func48, Tryd.ntmps48
    go_wp2_with fail
    go_ret
    exact ⟨rfl, rfl⟩
  · have hI : (a : Int) / 128 = 0 := by omega
    rw [xt_low a (by omega)]
    have hx : bits .xor .u8 ((a : Int) * 2) 0 = ((2 * a : Nat) : Int) := by
      rw [show (a : Int) * 2 = ((2 * a : Nat) : Int) by omega]
      have h0 := u8_xor_nat (2 * a) 0 (by omega) (by omega)
      rw [Nat.xor_zero] at h0
      exact h0
    go_enter Tryd.func48, Tryd.ntmps48
    go_wp2_with fail
    go_ret
    exact ⟨rfl, rfl⟩
end Go.Proofs.YtjemajenfkjelaaDoor
