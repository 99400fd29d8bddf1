/- A device on numbers: what is seen, what is safe, what is loose. Own work. -/
import Derived.Test.YtipdcocliefppaaMem
namespace Go.Proofs.Ytipdcocliefppaa
namespace DM
/-- A loose write: its place, its bytes, how far the file reached. -/
structure LW where
  at_ : Nat
  bytes : List Nat
  size : Nat
structure DS where
  most : Nat
  seen : List Nat
  safe : List Nat
  loose : List LW
  steps : Nat
  down : Bool
  told : Bool
  after : Nat
  done : Bool
/-- Bytes that stand from a place on in others; noughts between. -/
def laid (s : List Nat) (a : Nat) (b : List Nat) : List Nat := if b = [] then s else (s ++ List.replicate (a - s.length) 0).take a ++ b ++ s.drop (a + b.length)
def new (m : Int) : DS := ⟨(max 0 (min m 16777216)).toNat, [], [], [], 0, false, false, 0, false⟩
/-- Whether the next step is done (what it makes is x), and whether it goes down. -/
def step (d x : DS) : DS × Int :=
  if d.told = false then ({ x with steps := x.steps + 1 }, 0)
  else if 0 < d.after then ({ x with steps := x.steps + 1, after := x.after - 1 }, 0)
  else ({ (if d.done then x else d) with steps := d.steps + 1, down := true, told := false }, 20)
/-- The j-th sector that a write at a touches, of what is then seen. -/
def sector (x : List Nat) (a j : Nat) : LW := ⟨(a / 512 + j) * 512, (x.take (min ((a / 512 + j) * 512 + 512) x.length)).drop ((a / 512 + j) * 512), min ((a / 512 + j) * 512 + 512) x.length⟩
/-- How many sectors n bytes at a touch. -/
def many (a n : Nat) : Nat := if n = 0 then 0 else (a + n - 1) / 512 - a / 512 + 1
def wrote (d : DS) (a : Nat) (b : List Nat) : DS := { d with seen := laid d.seen a b, loose := d.loose ++ (List.range (many a b.length)).map (sector (laid d.seen a b) a) }
def write (d : DS) (a : Int) (b : List Nat) : DS × Int :=
  if d.down then (d, 20)
  else if a < 0 ∨ (d.seen.length : Int) < a then (d, 43)
  else if (d.most : Int) - a < (b.length : Int) then (d, 21)
  else step d (wrote d a.toNat b)
def sync (d : DS) : DS × Int := if d.down then (d, 20) else step d { d with safe := d.seen, loose := [] }
def beat (d : DS) : DS × Int := if d.down then (d, 20) else step d d
def read (d : DS) (a n : Int) : List Nat × Int :=
  if d.down then ([], 20)
  else if a < 0 ∨ n < 0 ∨ (d.seen.length : Int) < a ∨ (d.seen.length : Int) - a < n then ([], 43)
  else ((d.seen.drop a.toNat).take n.toNat, 0)
def fail (d : DS) (a : Int) (x : Bool) : DS × Int := if d.down then (d, 20) else ({ d with told := true, after := a.toNat, done := x }, 0)
/-- Whether the i-th bit is kept. -/
def bit (k : List Nat) (i : Nat) : Bool := decide (i / 8 < k.length) && (gb k (i / 8) / 2 ^ (i % 8) % 2 == 1)
/-- The first n loose writes, those that are kept, laid into what is safe. -/
def layTo (k : List Nat) (l : List LW) (s : List Nat) : Nat → List Nat
  | 0 => s
  | n + 1 => match l[n]? with
    | some x => if bit k n then laid (layTo k l s n) x.at_ x.bytes else layTo k l s n
    | none => layTo k l s n
def start (d : DS) (k : List Nat) : DS := ⟨d.most, layTo k d.loose d.safe d.loose.length, layTo k d.loose d.safe d.loose.length, [], d.steps, false, false, 0, false⟩
def edit (d : DS) (a : Int) (b : List Nat) : DS :=
  if a < 0 ∨ (d.seen.length : Int) < a ∨ (d.most : Int) - a < (b.length : Int) then d else { d with seen := laid d.seen a.toNat b, safe := laid d.safe a.toNat b }
def load (d : DS) (b : List Nat) : DS := if d.most < b.length then d else { d with seen := b, safe := b, loose := [] }
/-- What holds of every device. -/
structure Ok (d : DS) : Prop where
  most : d.most ≤ 16777216
  seen : d.seen.length ≤ d.most
  safe : d.safe.length ≤ d.most
  bseen : ∀ k, gb d.seen k < 256
  bsafe : ∀ k, gb d.safe k < 256
  loose : ∀ x ∈ d.loose, (∀ k, gb x.bytes k < 256) ∧ x.bytes.length ≤ 512 ∧ x.at_ + x.bytes.length ≤ d.most
theorem laid_len (s : List Nat) (a : Nat) (b : List Nat) (hb : b ≠ []) : (laid s a b).length = max s.length (a + b.length) := by
  unfold laid
  rw [if_neg hb]
  simp only [List.length_append, List.length_take, List.length_drop, List.length_replicate]
  omega
theorem laid_nil (s : List Nat) (a : Nat) : laid s a [] = s := by unfold laid; rw [if_pos rfl]
theorem laid_le (s : List Nat) (a : Nat) (b : List Nat) (m : Nat) (h1 : s.length ≤ m) (h2 : a + b.length ≤ m) : (laid s a b).length ≤ m := by
  by_cases hb : b = []
  · subst hb; rw [laid_nil]; exact h1
  · rw [laid_len s a b hb]; omega
theorem laid_ge (s : List Nat) (a : Nat) (b : List Nat) : s.length ≤ (laid s a b).length := by
  by_cases hb : b = []
  · subst hb; rw [laid_nil]; exact Nat.le_refl _
  · rw [laid_len s a b hb]; omega
/-- What stands where, behind bytes that were laid. -/
theorem laid_get (s : List Nat) (a : Nat) (b : List Nat) (k : Nat) : gb (laid s a b) k = if b ≠ [] ∧ a ≤ k ∧ k < a + b.length then gb b (k - a) else gb s k := by
  by_cases hb : b = []
  · subst hb; rw [laid_nil]; simp
  · unfold laid
    rw [if_neg hb]
    unfold gb
    simp only [List.getD_eq_getElem?_getD]
    have h1 : ((s ++ List.replicate (a - s.length) 0).take a).length = a := by simp only [List.length_take, List.length_append, List.length_replicate]; omega
    by_cases c1 : k < a
    · rw [List.append_assoc, List.getElem?_append_left (by omega), List.getElem?_take, if_pos c1, if_neg (by omega)]
      by_cases c2 : k < s.length
      · rw [List.getElem?_append_left c2]
      · rw [List.getElem?_append_right (by omega), List.getElem?_replicate, List.getElem?_eq_none (l := s) (by omega)]
        split <;> rfl
    · by_cases c2 : k < a + b.length
      · rw [List.append_assoc, List.getElem?_append_right (by omega), List.getElem?_append_left (by omega), if_pos ⟨hb, by omega, c2⟩, h1]
      · rw [List.getElem?_append_right (by rw [List.length_append]; omega), List.getElem?_drop, if_neg (by omega), List.length_append, h1]
        congr 2
        omega
theorem laid_byte (s : List Nat) (a : Nat) (b : List Nat) (hs : ∀ k, gb s k < 256) (hb : ∀ k, gb b k < 256) (k : Nat) : gb (laid s a b) k < 256 := by
  rw [laid_get]; split
  · exact hb _
  · exact hs _
end DM
end Go.Proofs.Ytipdcocliefppaa
