/- Numbers are laid in the order that they have. Own work. -/
import Derived.Test.YtngflmdlgaeokaaBackMath
import Derived.WalkLawsBesides
namespace Go.Proofs.Ytngflmdlgaeokaa
open Go.RowKit
def U (l : List Nat) : List UInt8 := l.map UInt8.ofNat
theorem bstr_toList (l : List Nat) : (bstr l).toList = U l := by
  rw [ByteArray.toList_eq]
  unfold bstr strOfNums U
  rw [List.map_map]
  rfl
theorem be_cons (n s : Nat) : be n (s + 1) = (n / 256 ^ s % 256) :: be n s := by
  unfold be
  rw [List.range_succ_eq_map, List.map_cons, List.map_map]
  congr 1
  apply List.map_congr_left
  intro i hi
  rw [List.mem_range] at hi
  show n / 256 ^ (s + 1 - 1 - (i + 1)) % 256 = n / 256 ^ (s - 1 - i) % 256
  congr 3; omega
theorem u8_lt (x y : Nat) (hx : x < 256) (hy : y < 256) : decide (UInt8.ofNat x < UInt8.ofNat y) = decide (x < y) := by
  rw [decide_eq_decide, UInt8.lt_iff_toNat_lt, UInt8.toNat_ofNat_of_lt' (by simpa using hx), UInt8.toNat_ofNat_of_lt' (by simpa using hy)]
theorem u8_eq (x y : Nat) (hx : x < 256) (hy : y < 256) : (UInt8.ofNat x == UInt8.ofNat y) = decide (x = y) := by
  rw [Bool.eq_iff_iff]
  simp only [beq_iff_eq, decide_eq_true_eq]
  refine ⟨fun h => ?_, fun h => by rw [h]⟩
  have := congrArg UInt8.toNat h
  rwa [UInt8.toNat_ofNat_of_lt' (by simpa using hx), UInt8.toNat_ofNat_of_lt' (by simpa using hy)] at this
theorem less_be (s : Nat) : ∀ a b, Op.bytesLess (U (be a s)) (U (be b s)) = decide (a % 256 ^ s < b % 256 ^ s) := by
  induction s with
  | zero => intro a b; simp [be, U, Op.bytesLess, Nat.mod_one]
  | succ s ih =>
    intro a b
    rw [be_cons, be_cons]
    show (decide (UInt8.ofNat (a / 256 ^ s % 256) < UInt8.ofNat (b / 256 ^ s % 256)) || (UInt8.ofNat (a / 256 ^ s % 256) == UInt8.ofNat (b / 256 ^ s % 256) && Op.bytesLess (U (be a s)) (U (be b s)))) = _
    have hx : a / 256 ^ s % 256 < 256 := Nat.mod_lt _ (by omega)
    have hy : b / 256 ^ s % 256 < 256 := Nat.mod_lt _ (by omega)
    rw [ih, u8_lt _ _ hx hy, u8_eq _ _ hx hy]
    have ea : a % 256 ^ (s + 1) = a % 256 ^ s + 256 ^ s * (a / 256 ^ s % 256) := Nat.mod_pow_succ
    have eb : b % 256 ^ (s + 1) = b % 256 ^ s + 256 ^ s * (b / 256 ^ s % 256) := Nat.mod_pow_succ
    have hp : 0 < 256 ^ s := Nat.pow_pos (by omega)
    have ha : a % 256 ^ s < 256 ^ s := Nat.mod_lt _ hp
    have hb : b % 256 ^ s < 256 ^ s := Nat.mod_lt _ hp
    rw [ea, eb]
    generalize a / 256 ^ s % 256 = x at *
    generalize b / 256 ^ s % 256 = y at *
    generalize a % 256 ^ s = p at *
    generalize b % 256 ^ s = q at *
    generalize 256 ^ s = m at *
    rw [Bool.eq_iff_iff]
    simp only [Bool.or_eq_true, Bool.and_eq_true, decide_eq_true_eq]
    constructor
    · rintro (h | ⟨rfl, h⟩)
      · have : m * (x + 1) ≤ m * y := Nat.mul_le_mul_left m h
        rw [Nat.mul_add] at this
        omega
      · omega
    · intro h
      rcases Nat.lt_trichotomy x y with k | k | k
      · exact .inl k
      · subst k; exact .inr ⟨rfl, by omega⟩
      · exfalso
        have : m * (y + 1) ≤ m * x := Nat.mul_le_mul_left m k
        rw [Nat.mul_add] at this
        omega
theorem less_bstr (s a b : Nat) (ha : a < 256 ^ s) (hb : b < 256 ^ s) : Op.bytesLess (bstr (be a s)).toList (bstr (be b s)).toList = decide (a < b) := by
  rw [bstr_toList, bstr_toList, less_be, Nat.mod_eq_of_lt ha, Nat.mod_eq_of_lt hb]
theorem U_inj {l m : List Nat} (hl : ∀ k, gb l k < 256) (hm : ∀ k, gb m k < 256) (h : U l = U m) : l = m := by
  have hlen : l.length = m.length := by have := congrArg List.length h; simpa [U] using this
  apply bytes_ext hlen rfl
  intro k hk
  have e := congrArg (fun x : List UInt8 => x[k]?) h
  simp only [U, List.getElem?_map] at e
  rw [List.getElem?_eq_getElem (by omega), List.getElem?_eq_getElem hk] at e
  simp only [Option.map_some, Option.some.injEq] at e
  have h1 := hl k
  have h2 := hm k
  unfold gb at h1 h2 ⊢
  rw [List.getD_eq_getElem?_getD, List.getElem?_eq_getElem (by omega)] at h1 ⊢
  rw [List.getD_eq_getElem?_getD, List.getElem?_eq_getElem hk] at h2 ⊢
  simp only [Option.getD_some] at h1 h2 ⊢
  have := congrArg UInt8.toNat e
  rwa [UInt8.toNat_ofNat_of_lt' (by simpa using h1), UInt8.toNat_ofNat_of_lt' (by simpa using h2)] at this
theorem eq_bstr (s a b : Nat) (hs : s ≤ 8) (ha : a < 256 ^ s) (hb : b < 256 ^ s) : (bstr (be a s) = bstr (be b s)) ↔ a = b := by
  refine ⟨fun h => ?_, fun h => by rw [h]⟩
  have e := congrArg ByteArray.toList h
  rw [bstr_toList, bstr_toList] at e
  have e2 := U_inj (be_byte a s) (be_byte b s) e
  have e3 := congrArg num e2
  rwa [num_be s a ha hs, num_be s b hb hs] at e3
end Go.Proofs.Ytngflmdlgaeokaa
