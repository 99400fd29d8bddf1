/- The document's round keys: contract. Own work. -/
import Derived.Test.YtbepchikngoknaaDoorAesEnc
import Derived.Test.YtbepchikngoknaaDoorAesA
import Derived.Deep.DeepCutAuto
import Derived.BigRegion
namespace Go.Proofs.YtbepchikngoknaaDoor
open Go.ChangeShapes Go.WideShapes Go.ChangeAt Go.RowKit
open AM FM
/-- The first n of 240 bytes, noughts behind them. -/
def swd (S : List Nat) (n : Nat) : List Nat := (List.range 240).map fun j => if j < n then gb S j else 0
theorem swd_len (S : List Nat) (n : Nat) : (swd S n).length = 240 := by simp [swd]
theorem swd_get (S : List Nat) (n k : Nat) (h : k < 240) : gb (swd S n) k = if k < n then gb S k else 0 := by
  unfold swd; rw [gb_map, if_pos h]
theorem swd_zero (S : List Nat) : row8 (swd S 0) = row8 (List.replicate 240 0) := by
  refine congrArg row8 (bytes_ext (n := 240) (swd_len _ _) List.length_replicate fun k hk => ?_)
  rw [swd_get _ _ _ hk, if_neg (by omega)]
  unfold gb
  rw [List.getD_eq_getElem?_getD, List.getElem?_replicate, if_pos hk]
  rfl
theorem swd_all {S : List Nat} (hS : S.length = 240) : swd S 240 = S :=
  bytes_ext (n := 240) (swd_len _ _) hS fun k hk => by rw [swd_get _ _ _ hk, if_pos hk]
theorem swd_step (S : List Nat) (k : Nat) (hk : k < 240) : (swd S k).set k (gb S k) = swd S (k + 1) :=
  bytes_ext (n := 240) (by rw [List.length_set, swd_len]) (swd_len _ _) fun j hj => by
    rw [gb_set _ _ _ _ (by rw [swd_len]; exact hk), swd_get _ _ _ hj, swd_get _ _ _ hj]
    by_cases e : k = j
    · subst e; rw [if_pos rfl, if_pos (by omega)]
    · rw [if_neg e]
      by_cases h : j < k
      · rw [if_pos h, if_pos (by omega)]
      · rw [if_neg h, if_neg (by omega)]
/-- Four bytes from a place on. -/
def w4 (S : List Nat) (i : Nat) : List Nat := [gb S (4 * i), gb S (4 * i + 1), gb S (4 * i + 2), gb S (4 * i + 3)]
theorem swd_four (S : List Nat) (i : Nat) (hi : i < 60) (a b c d : Nat) (h : [a, b, c, d] = w4 S i) : ((((row8 (swd S (4 * i))).set (i * 4) (.int .u8 (a : Int))).set (i * 4 + 1) (.int .u8 (b : Int))).set (i * 4 + 2) (.int .u8 (c : Int))).set (i * 4 + 3) (.int .u8 (d : Int)) = row8 (swd S (4 * (i + 1))) := by
  unfold w4 at h
  injection h with h1 h
  injection h with h2 h
  injection h with h3 h
  injection h with h4 h
  subst h1; subst h2; subst h3; subst h4
  rw [Nat.mul_comm i 4, row8_set, row8_set, row8_set, row8_set, swd_step _ _ (by omega), swd_step _ _ (by omega), swd_step _ _ (by omega), swd_step _ _ (by omega)]
  rfl
/-- What a word is exclusive-ored with. -/
def wt (S : List Nat) (i : Nat) : List Nat :=
  if i % 8 = 0 then [box (gb S (4 * (i - 1) + 1)) ^^^ power 2 ((i / 8 - 1 : Nat) : Int), box (gb S (4 * (i - 1) + 2)), box (gb S (4 * (i - 1) + 3)), box (gb S (4 * (i - 1)))]
  else if i % 8 = 4 then [box (gb S (4 * (i - 1))), box (gb S (4 * (i - 1) + 1)), box (gb S (4 * (i - 1) + 2)), box (gb S (4 * (i - 1) + 3))]
  else w4 S (i - 1)
theorem wt_next (key : List Nat) (i k : Nat) (h8 : 8 ≤ i) (h60 : i < 60) (hk : k < 4) : gb (sched key) (4 * i + k) = gb (sched key) (4 * (i - 8) + k) ^^^ gb (wt (sched key) i) k := by
  rw [sched_get key (4 * i + k) (by omega)]
  unfold nxt
  rw [if_neg (by omega), show (4 * i + k) / 4 = i by omega, show 4 * i + k - 32 = 4 * (i - 8) + k by omega, show 4 * i + k - 4 = 4 * (i - 1) + k by omega, show (4 * i + k) % 4 = k by omega]
  generalize sched key = S
  unfold wt
  by_cases h0 : i % 8 = 0
  · rw [if_pos h0, if_pos h0]
    congr 1
    match k, hk with
    | 0, _ => rw [if_pos rfl, show (4 * i + 0 + 1) % 4 = 1 by omega]; rfl
    | 1, _ => rw [if_neg (by omega), Nat.xor_zero, show (4 * i + 1 + 1) % 4 = 2 by omega]; rfl
    | 2, _ => rw [if_neg (by omega), Nat.xor_zero, show (4 * i + 2 + 1) % 4 = 3 by omega]; rfl
    | 3, _ => rw [if_neg (by omega), Nat.xor_zero, show (4 * i + 3 + 1) % 4 = 0 by omega]; rfl
  · rw [if_neg h0, if_neg h0]
    by_cases h4 : i % 8 = 4
    · rw [if_pos h4, if_pos h4]
      congr 1
      match k, hk with
      | 0, _ => rfl
      | 1, _ => rfl
      | 2, _ => rfl
      | 3, _ => rfl
    · rw [if_neg h4, if_neg h4]
      congr 1
      match k, hk with
      | 0, _ => rfl
      | 1, _ => rfl
      | 2, _ => rfl
      | 3, _ => rfl
theorem bytes4 {a b c d : Nat} (ha : a < 256) (hb : b < 256) (hc : c < 256) (hd : d < 256) : Bytes 4 [a, b, c, d] := by
  refine ⟨rfl, fun k => ?_⟩
  match k with
  | 0 => exact ha
  | 1 => exact hb
  | 2 => exact hc
  | 3 => exact hd
  | _ + 4 => exact Nat.zero_lt_succ _
theorem w4_bytes {S : List Nat} (hS : ∀ k, gb S k < 256) (i : Nat) : Bytes 4 (w4 S i) := bytes4 (hS _) (hS _) (hS _) (hS _)
theorem wt_bytes {S : List Nat} (hS : ∀ k, gb S k < 256) (i : Nat) : Bytes 4 (wt S i) := by
  unfold wt
  split
  · exact bytes4 (lt_of_xor (box_byte _) (power_lt _ _)) (box_byte _) (box_byte _) (box_byte _)
  split
  · exact bytes4 (box_byte _) (box_byte _) (box_byte _) (box_byte _)
  · exact w4_bytes hS _
theorem w4_key (key : List Nat) (i : Nat) (hi : i < 8) : w4 (sched key) i = w4 key i := by
  have e : ∀ j, j < 32 → gb (sched key) j = gb key j := fun j hj => by
    rw [sched_get key j (by omega)]; unfold nxt; rw [if_pos hj]
  unfold w4
  rw [e _ (by omega), e _ (by omega), e _ (by omega), e _ (by omega)]
/-- A word out of those that are laid already. -/
theorem w4_part (S : List Nat) (n i : Nat) (hi : 4 * (i + 1) ≤ n) (hn : n ≤ 240) (j : Nat) (v : Value) (h : (row8 (w4 S i))[j]? = some v) : (row8 (swd S n))[4 * i + j]? = some v := by
  by_cases hj : j < 4
  · rw [row8_val _ _ (by rw [swd_len]; omega), swd_get _ _ _ (by omega), if_pos (by omega), ← h]
    match j, hj with
    | 0, _ => rfl
    | 1, _ => rfl
    | 2, _ => rfl
    | 3, _ => rfl
  · rw [List.getElem?_eq_none (by rw [row8_len]; show 4 ≤ j; omega)] at h; cases h
theorem info4 : (Tryd.prog.info? 141).map (·.size) = some 4 := by kernel_rfl
theorem zeroW (w : World) : (zeroValue 142).run Tryd.prog w = .ok (.agg (row8 (List.replicate 240 0)).toArray) w := by kernel_rfl
theorem zeroK (w : World) : (zeroValue 123).run Tryd.prog w = .ok (.agg (row8 (List.replicate 240 0)).toArray) w := by kernel_rfl
theorem zero4 (w : World) : (zeroValue 141).run Tryd.prog w = .ok (.agg (row8 [0, 0, 0, 0]).toArray) w := by kernel_rfl
end Go.Proofs.YtbepchikngoknaaDoor
