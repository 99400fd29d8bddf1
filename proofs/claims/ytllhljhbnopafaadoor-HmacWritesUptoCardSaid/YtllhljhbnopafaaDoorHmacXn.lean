/- Noughts that become a key's block, exclusive-ored, one by one: on numbers. Own work. -/
import Derived.Test.YtllhljhbnopafaaDoorHmacBlock
namespace Go.Proofs.YtllhljhbnopafaaDoor
/-- Of 64 noughts the first n are the key's bytes, exclusive-ored with x. -/
def xn (K : List Nat) (x n : Nat) : List Nat := (List.range 64).map fun i => if i < n then gb K i ^^^ x else 0
theorem xn_len (K : List Nat) (x n : Nat) : (xn K x n).length = 64 := by simp [xn]
theorem xn_get (K : List Nat) (x n k : Nat) (hk : k < 64) : gb (xn K x n) k = if k < n then gb K k ^^^ x else 0 := by
  unfold xn; rw [gb_map, if_pos hk]
theorem xn_zero (K : List Nat) (x : Nat) : row8 (xn K x 0) = row8 (List.replicate 64 0) := by
  refine congrArg row8 (bytes_ext (n := 64) (xn_len _ _ _) (by simp) fun k hk => ?_)
  rw [xn_get _ _ _ _ hk, if_neg (by omega)]
  unfold gb
  rw [List.getD_eq_getElem?_getD, List.getElem?_replicate, if_pos hk]
  rfl
theorem xn_step (K : List Nat) (x k : Nat) (hk : k < 64) : (xn K x k).set k (gb K k ^^^ x) = xn K x (k + 1) :=
  bytes_ext (n := 64) (by rw [List.length_set, xn_len]) (xn_len _ _ _) fun j hj => by
    rw [gb_set _ _ _ _ (by rw [xn_len]; exact hk), xn_get _ _ _ _ hj, xn_get _ _ _ _ hj]
    by_cases e : k = j
    · subst e; rw [if_pos rfl, if_pos (by omega)]
    · rw [if_neg e]
      by_cases h : j < k
      · rw [if_pos h, if_pos (by omega)]
      · rw [if_neg h, if_neg (by omega)]
theorem xn_all (K : List Nat) (hK : K.length = 64) (x : Nat) : xn K x 64 = SM.kx K x := by
  unfold xn SM.kx SM.kof
  rw [if_neg (by omega)]
  apply List.map_congr_left
  intro i hi
  rw [if_pos (by simpa using hi)]
theorem xn_kof (l : List Nat) (x : Nat) : xn (SM.kof l) x 64 = SM.kx l x := by
  unfold xn SM.kx
  apply List.map_congr_left
  intro i hi
  rw [if_pos (by simpa using hi)]
theorem xn_byte {K : List Nat} (hK : ∀ k, gb K k < 256) {x : Nat} (hx : x < 256) (n k : Nat) : gb (xn K x n) k < 256 := by
  unfold xn; rw [gb_map]
  split
  · split
    · exact Nat.xor_lt_two_pow (n := 8) (hK k) hx
    · omega
  · omega
theorem gb_past (K : List Nat) (k : Nat) (h : K.length ≤ k) : gb K k = 0 := by
  unfold gb; rw [List.getD_eq_getElem?_getD, List.getElem?_eq_none h]; rfl
end Go.Proofs.YtllhljhbnopafaaDoor
