/- The sums with a key of the document on numbers: a key's block, the whole. Own work. -/
import Derived.Test.YtllhljhbnopafaaDoorShaMath
namespace Go.Proofs.YtllhljhbnopafaaDoor
namespace SM
/-- A key as it counts: its sum, where it has more than 64 bytes. -/
def kof (key : List Nat) : List Nat := if 64 < key.length then sha key else key
/-- A key's block, each byte exclusive-ored with x. -/
def kx (key : List Nat) (x : Nat) : List Nat := (List.range 64).map fun i => gb (kof key) i ^^^ x
def mac (key b : List Nat) : List Nat := sha (kx key 0x5c ++ sha (kx key 0x36 ++ b))
theorem out_len (h : List Nat) : (out h).length = 32 := by simp [out]
theorem sha_length (l : List Nat) : (sha l).length = 32 := out_len _
theorem kof_sum (key : List Nat) (h : 64 < key.length) : kof (sha key) = kof key := by
  unfold kof
  rw [if_pos h, if_neg (by rw [sha_length]; omega)]
theorem mac_sum (key b : List Nat) (h : 64 < key.length) : mac (sha key) b = mac key b := by
  unfold mac kx
  rw [kof_sum key h]
theorem mac_nought (key b : List Nat) (h : key.length < 64) : mac (key ++ [0]) b = mac key b := by
  have e : ∀ x, kx (key ++ [0]) x = kx key x := fun x => by
    unfold kx kof
    rw [if_neg (by simp; omega), if_neg (by omega)]
    apply List.map_congr_left
    intro i _
    congr 1
    unfold gb
    rw [List.getD_eq_getElem?_getD, List.getD_eq_getElem?_getD]
    by_cases hi : i < key.length
    · rw [List.getElem?_append_left hi]
    · rw [List.getElem?_append_right (by omega), List.getElem?_eq_none (l := key) (by omega)]
      cases i - key.length <;> simp
  unfold mac
  rw [e, e]
theorem mac_jefe : (mac [74, 101, 102, 101] [119, 104, 97, 116, 32, 100, 111, 32, 121, 97, 32, 119, 97, 110, 116, 32, 102, 111, 114, 32, 110, 111, 116, 104, 105, 110, 103, 63]).take 4 = [0x5b, 0xdc, 0xc1, 0x46] := by
  decide +kernel
end SM
end Go.Proofs.YtllhljhbnopafaaDoor
