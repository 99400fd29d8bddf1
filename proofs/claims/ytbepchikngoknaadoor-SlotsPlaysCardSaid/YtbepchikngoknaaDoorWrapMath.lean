/- A key sealed by a key, on numbers. Own work. -/
import Derived.Test.YtbepchikngoknaaDoorKdfMath
import Derived.Test.YtbepchikngoknaaDoorAesA
import Derived.Test.YtbepchikngoknaaDoorRdConst
namespace Go.Proofs.YtbepchikngoknaaDoor
open SM AM
namespace WM
def wrapW : List Nat := [119, 114, 97, 112]
def checkW : List Nat := [99, 104, 101, 99, 107]
def lastOne : List Nat := List.replicate 15 0 ++ [1]
theorem lastOne_bytes : Bytes 16 lastOne := ⟨rfl, small_bytes (by decide)⟩
def wkeys (K : List Nat) : Nat → List Nat := rk (sched (klabel K wrapW))
theorem klabel_bytes (K l : List Nat) : Bytes 32 (klabel K l) := sha_bytes _
theorem wkeys_bytes (K : List Nat) (n : Nat) : Bytes 16 (wkeys K n) := rk_bytes (sched_bytes (klabel_bytes K wrapW).2).2 n
/-- A key's mask, by halves and whole. -/
def maskA (K : List Nat) : List Nat := enc (wkeys K) (List.replicate 16 0)
def maskB (K : List Nat) : List Nat := enc (wkeys K) lastOne
theorem maskA_bytes (K : List Nat) : Bytes 16 (maskA K) := enc_bytes (wkeys_bytes K) _
theorem maskB_bytes (K : List Nat) : Bytes 16 (maskB K) := enc_bytes (wkeys_bytes K) _
def wmask (K : List Nat) : List Nat := maskA K ++ maskB K
theorem wmask_bytes (K : List Nat) : Bytes 32 (wmask K) := by
  unfold wmask
  exact ⟨by rw [List.length_append, (maskA_bytes K).1, (maskB_bytes K).1], gb_app _ _ (maskA_bytes K).2 (maskB_bytes K).2⟩
theorem wmask_get (K : List Nat) (j : Nat) : gb (wmask K) j = if j < 16 then gb (maskA K) j else gb (maskB K) (j - 16) := by
  unfold wmask gb
  rw [List.getD_eq_getElem?_getD, List.getD_eq_getElem?_getD, List.getD_eq_getElem?_getD]
  split
  · next h => rw [List.getElem?_append_left (by rw [(maskA_bytes K).1]; exact h)]
  · next h => rw [List.getElem?_append_right (by rw [(maskA_bytes K).1]; omega), (maskA_bytes K).1]
/-- A key exclusive or another one's mask, and its check. -/
def wseal (K M : List Nat) : List Nat := xq M (wmask K) 32
theorem wseal_bytes (K : List Nat) {M : List Nat} (hM : Bytes 32 M) : Bytes 32 (wseal K M) := xq_bytes hM.2 (wmask_bytes K).2 32
theorem wseal_get (K M : List Nat) (j : Nat) (hj : j < 32) : gb (wseal K M) j = gb M j ^^^ gb (wmask K) j := by
  unfold wseal; rw [xq_get _ _ _ _ hj, if_pos hj]
theorem wseal_back (K : List Nat) {M : List Nat} (hM : Bytes 32 M) : wseal K (wseal K M) = M :=
  bytes_ext (n := 32) (wseal_bytes K (wseal_bytes K hM)).1 hM.1 fun j hj => by
    rw [wseal_get _ _ _ hj, wseal_get _ _ _ hj, Nat.xor_assoc, Nat.xor_self, Nat.xor_zero]
theorem wseal_inj (K : List Nat) {A B : List Nat} (hA : Bytes 32 A) (hB : Bytes 32 B) : wseal K A = wseal K B ↔ A = B :=
  ⟨fun h => by rw [← wseal_back K hA, h, wseal_back K hB], fun h => by rw [h]⟩
theorem wseal_mask (K A B : List Nat) (j : Nat) (hj : j < 32) : gb (wseal K A) j ^^^ gb (wseal K B) j = gb A j ^^^ gb B j := by
  rw [wseal_get _ _ _ hj, wseal_get _ _ _ hj, Nat.xor_comm (gb B j), Nat.xor_assoc, ← Nat.xor_assoc (gb (wmask K) j), Nat.xor_self, Nat.zero_xor]
def wcheck (K S : List Nat) : List Nat := mac (klabel K checkW) S
theorem wcheck_bytes (K S : List Nat) : Bytes 32 (wcheck K S) := sha_bytes _
/-- What Open tells. -/
def wopen (K S C : List Nat) : List Nat := if wcheck K S = C then wseal K S else List.replicate 32 0
def werr (K S C : List Nat) : Int := if wcheck K S = C then 0 else 30
theorem wopen_bytes (K : List Nat) {S : List Nat} (hS : Bytes 32 S) (C : List Nat) : Bytes 32 (wopen K S C) := by
  unfold wopen; split
  · exact wseal_bytes K hS
  · exact bytes_zero 32
/-- Both halves, i bytes of each. -/
def xm (M A B : List Nat) (i : Nat) : List Nat := (List.range 32).map fun j => if j < 16 then (if j < i then gb M j ^^^ gb A j else gb M j) else (if j < 16 + i then gb M j ^^^ gb B (j - 16) else gb M j)
theorem xm_len (M A B : List Nat) (i : Nat) : (xm M A B i).length = 32 := by simp [xm]
theorem xm_get (M A B : List Nat) (i j : Nat) (hj : j < 32) : gb (xm M A B i) j = if j < 16 then (if j < i then gb M j ^^^ gb A j else gb M j) else (if j < 16 + i then gb M j ^^^ gb B (j - 16) else gb M j) := by
  unfold xm; rw [gb_map, if_pos hj]
theorem xm_zero {M : List Nat} (hM : M.length = 32) (A B : List Nat) : xm M A B 0 = M :=
  bytes_ext (n := 32) (xm_len _ _ _ _) hM fun j hj => by
    rw [xm_get _ _ _ _ _ hj]
    by_cases h : j < 16
    · rw [if_pos h, if_neg (by omega)]
    · rw [if_neg h, if_neg (by omega)]
theorem xm_all (K M : List Nat) : xm M (maskA K) (maskB K) 16 = wseal K M :=
  bytes_ext (n := 32) (xm_len _ _ _ _) (xq_len _ _ _) fun j hj => by
    rw [xm_get _ _ _ _ _ hj, wseal_get _ _ _ hj, wmask_get]
    by_cases h : j < 16
    · rw [if_pos h, if_pos h, if_pos h]
    · rw [if_neg h, if_neg h, if_pos (by omega)]
theorem xm_step (M A B : List Nat) (i : Nat) (hi : i < 16) : ((xm M A B i).set i (gb M i ^^^ gb A i)).set (16 + i) (gb M (16 + i) ^^^ gb B i) = xm M A B (i + 1) :=
  bytes_ext (n := 32) (by rw [List.length_set, List.length_set, xm_len]) (xm_len _ _ _ _) fun j hj => by
    rw [gb_set _ _ _ _ (by rw [List.length_set, xm_len]; omega), gb_set _ _ _ _ (by rw [xm_len]; omega), xm_get _ _ _ _ _ hj, xm_get _ _ _ _ _ hj]
    by_cases e : 16 + i = j
    · subst e; rw [if_pos rfl, if_neg (by omega), if_pos (by omega), show 16 + i - 16 = i by omega]
    · rw [if_neg e]
      by_cases e2 : i = j
      · subst e2; rw [if_pos rfl, if_pos hi, if_pos (by omega)]
      · rw [if_neg e2]
        by_cases h : j < 16
        · rw [if_pos h, if_pos h]
          by_cases h2 : j < i
          · rw [if_pos h2, if_pos (by omega)]
          · rw [if_neg h2, if_neg (by omega)]
        · rw [if_neg h, if_neg h]
          by_cases h2 : j < 16 + i
          · rw [if_pos h2, if_pos (by omega)]
          · rw [if_neg h2, if_neg (by omega)]
/-- One half of a row, its first i bytes exclusive or another row's. -/
def hx (M A : List Nat) (h i : Nat) : List Nat := (List.range 32).map fun j => if 16 * h ≤ j ∧ j < 16 * h + i then gb M j ^^^ gb A (j - 16 * h) else gb M j
theorem hx_len (M A : List Nat) (h i : Nat) : (hx M A h i).length = 32 := by simp [hx]
theorem hx_get (M A : List Nat) (h i j : Nat) (hj : j < 32) : gb (hx M A h i) j = if 16 * h ≤ j ∧ j < 16 * h + i then gb M j ^^^ gb A (j - 16 * h) else gb M j := by
  unfold hx; rw [gb_map, if_pos hj]
theorem hx_zero {M : List Nat} (hM : M.length = 32) (A : List Nat) (h : Nat) : hx M A h 0 = M :=
  bytes_ext (n := 32) (hx_len _ _ _ _) hM fun j hj => by rw [hx_get _ _ _ _ _ hj, if_neg (by omega)]
theorem hx_step (M A : List Nat) (h i : Nat) (hh : h < 2) (hi : i < 16) : (hx M A h i).set (16 * h + i) (gb M (16 * h + i) ^^^ gb A i) = hx M A h (i + 1) :=
  bytes_ext (n := 32) (by rw [List.length_set, hx_len]) (hx_len _ _ _ _) fun j hj => by
    rw [gb_set _ _ _ _ (by rw [hx_len]; omega), hx_get _ _ _ _ _ hj, hx_get _ _ _ _ _ hj]
    by_cases e : 16 * h + i = j
    · subst e; rw [if_pos rfl, if_pos (by omega), show 16 * h + i - 16 * h = i by omega]
    · rw [if_neg e]
      by_cases q : 16 * h ≤ j ∧ j < 16 * h + i
      · rw [if_pos q, if_pos (by omega)]
      · rw [if_neg q, if_neg (by omega)]
theorem hx_bytes {M A : List Nat} (hM : ∀ k, gb M k < 256) (hA : ∀ k, gb A k < 256) (h i : Nat) : Bytes 32 (hx M A h i) :=
  ⟨hx_len _ _ _ _, fun k => by
    unfold hx
    rw [gb_map]
    split
    · split
      · exact FM.lt_of_xor (hM _) (hA _)
      · exact hM _
    · omega⟩
theorem hx_both (K M : List Nat) : hx (hx M (maskA K) 0 16) (maskB K) 1 16 = wseal K M :=
  bytes_ext (n := 32) (hx_len _ _ _ _) (xq_len _ _ _) fun j hj => by
    rw [hx_get _ _ _ _ _ hj, hx_get _ _ _ _ _ hj, wseal_get _ _ _ hj, wmask_get]
    by_cases h : j < 16
    · rw [if_neg (by omega), if_pos (by omega), if_pos h, Nat.mul_zero, Nat.sub_zero]
    · rw [if_pos (by omega), if_neg (by omega), if_neg h, Nat.mul_one]
def halfRow (h : Nat) : List Nat := List.replicate 15 0 ++ [h]
theorem halfRow_bytes (h : Nat) (hh : h < 256) : Bytes 16 (halfRow h) := ⟨rfl, small_bytes (by unfold halfRow; simp; omega)⟩
/-- The mask is not nought: its halves are unlike. -/
theorem wseal_apart (K M : List Nat) : wseal K M ≠ M := fun h => by
  have hz : ∀ j, j < 32 → gb (wmask K) j = 0 := fun j hj => by
    have e := wseal_get K M j hj
    rw [h] at e
    have := congrArg (gb M j ^^^ ·) e
    simpa [← Nat.xor_assoc] using this.symm
  have hAB : maskA K = maskB K := bytes_ext (n := 16) (maskA_bytes K).1 (maskB_bytes K).1 fun j hj => by
    have e1 := hz j (by omega)
    have e2 := hz (j + 16) (by omega)
    rw [wmask_get, if_pos hj] at e1
    rw [wmask_get, if_neg (by omega), Nat.add_sub_cancel] at e2
    rw [e1, e2]
  have := (enc_inj (wkeys_bytes K) (bytes_zero 16) lastOne_bytes).1 hAB
  exact absurd this (by decide)
end WM
end Go.Proofs.YtbepchikngoknaaDoor
