/- The three doublings of one statement, in whatever order their calls and variables come: what holds behind any of them. -/
import Derived.Test.YthbeabpbogekcaaSteps
import Derived.Test.YthbeabpbogekcaaRegionInv
import Derived.WalkKit
namespace Go.Proofs.Ythbeabpbogekcaa
open Go.ChangeShapes Go.WideShapes Go.ChangeAt Go.RowKit
open FM
structure Inv7 (l : Array Bool) (w0 w' : World) (s t u : List Nat) (x11 x12 x13 x32 x33 x34 x35 x36 x37 : Value) (b1 b2 b3 : Nat) : Prop where
  late9 : l.getD 9 false = false
  late10 : l.getD 10 false = false
  late11 : l.getD 11 false = false
  below : Below w0.heap.size w0 w'
  v0 : l.getD 0 false = true → x32 = .agg (row8 s).toArray
  v1 : l.getD 1 false = true → x33 = .agg (row8 (tw s)).toArray
  v2 : l.getD 2 false = true → x34 = .agg (row8 t).toArray
  v3 : l.getD 3 false = true → x35 = .agg (row8 (tw t)).toArray
  v4 : l.getD 4 false = true → x36 = .agg (row8 u).toArray
  v5 : l.getD 5 false = true → x37 = .agg (row8 (tw u)).toArray
  a6 : l.getD 6 false = true → x11 = .pointer (some ⟨b1, 0, none⟩) ∧ w0.heap.size ≤ b1 ∧ Blk w' b1 29 (row8 (twTo [] 0))
  a7 : l.getD 7 false = true → x12 = .pointer (some ⟨b2, 0, none⟩) ∧ w0.heap.size ≤ b2 ∧ Blk w' b2 29 (row8 (twTo [] 0))
  a8 : l.getD 8 false = true → x13 = .pointer (some ⟨b3, 0, none⟩) ∧ w0.heap.size ≤ b3 ∧ Blk w' b3 29 (row8 (twTo [] 0))
  d67 : l.getD 6 false = true → l.getD 7 false = true → b1 ≠ b2
  d68 : l.getD 6 false = true → l.getD 8 false = true → b1 ≠ b3
  d78 : l.getD 7 false = true → l.getD 8 false = true → b2 ≠ b3

theorem Inv7.s0 {l : Array Bool} {w0 w' : World} {s t u : List Nat} {x11 x12 x13 x32 x33 x34 x35 x36 x37 : Value} {b1 b2 b3 : Nat} (hl : l.size = 12) (I : Inv7 l w0 w' s t u x11 x12 x13 x32 x33 x34 x35 x36 x37 b1 b2 b3) :
    Inv7 (l.setIfInBounds 0 true) w0 w' s t u x11 x12 x13 (.agg (row8 s).toArray) x33 x34 x35 x36 x37 b1 b2 b3 := by
  constructor
  · rw [sg hl 0 9 (by omega), if_neg (by omega)]; exact I.late9
  · rw [sg hl 0 10 (by omega), if_neg (by omega)]; exact I.late10
  · rw [sg hl 0 11 (by omega), if_neg (by omega)]; exact I.late11
  · exact I.below
  · exact fun _ => rfl
  · intro h; rw [sg hl 0 1 (by omega), if_neg (by omega)] at h; exact I.v1 h
  · intro h; rw [sg hl 0 2 (by omega), if_neg (by omega)] at h; exact I.v2 h
  · intro h; rw [sg hl 0 3 (by omega), if_neg (by omega)] at h; exact I.v3 h
  · intro h; rw [sg hl 0 4 (by omega), if_neg (by omega)] at h; exact I.v4 h
  · intro h; rw [sg hl 0 5 (by omega), if_neg (by omega)] at h; exact I.v5 h
  · intro h; rw [sg hl 0 6 (by omega), if_neg (by omega)] at h; exact I.a6 h
  · intro h; rw [sg hl 0 7 (by omega), if_neg (by omega)] at h; exact I.a7 h
  · intro h; rw [sg hl 0 8 (by omega), if_neg (by omega)] at h; exact I.a8 h
  · intro h k; rw [sg hl 0 6 (by omega), if_neg (by omega)] at h; rw [sg hl 0 7 (by omega), if_neg (by omega)] at k; exact I.d67 h k
  · intro h k; rw [sg hl 0 6 (by omega), if_neg (by omega)] at h; rw [sg hl 0 8 (by omega), if_neg (by omega)] at k; exact I.d68 h k
  · intro h k; rw [sg hl 0 7 (by omega), if_neg (by omega)] at h; rw [sg hl 0 8 (by omega), if_neg (by omega)] at k; exact I.d78 h k
theorem Inv7.s1 {l : Array Bool} {w0 w' : World} {s t u : List Nat} {x11 x12 x13 x32 x33 x34 x35 x36 x37 : Value} {b1 b2 b3 : Nat} (hl : l.size = 12) (I : Inv7 l w0 w' s t u x11 x12 x13 x32 x33 x34 x35 x36 x37 b1 b2 b3) {w'' : World} (hb : Below w'.heap.size w' w'') :
    Inv7 (l.setIfInBounds 1 true) w0 w'' s t u x11 x12 x13 x32 (.agg (row8 (tw s)).toArray) x34 x35 x36 x37 b1 b2 b3 := by
  constructor
  · rw [sg hl 1 9 (by omega), if_neg (by omega)]; exact I.late9
  · rw [sg hl 1 10 (by omega), if_neg (by omega)]; exact I.late10
  · rw [sg hl 1 11 (by omega), if_neg (by omega)]; exact I.late11
  · exact I.below.trans (hb.mono I.below.size)
  · intro h; rw [sg hl 1 0 (by omega), if_neg (by omega)] at h; exact I.v0 h
  · exact fun _ => rfl
  · intro h; rw [sg hl 1 2 (by omega), if_neg (by omega)] at h; exact I.v2 h
  · intro h; rw [sg hl 1 3 (by omega), if_neg (by omega)] at h; exact I.v3 h
  · intro h; rw [sg hl 1 4 (by omega), if_neg (by omega)] at h; exact I.v4 h
  · intro h; rw [sg hl 1 5 (by omega), if_neg (by omega)] at h; exact I.v5 h
  · intro h; rw [sg hl 1 6 (by omega), if_neg (by omega)] at h; obtain ⟨e, g, q⟩ := I.a6 h; exact ⟨e, g, q.below hb q.lt⟩
  · intro h; rw [sg hl 1 7 (by omega), if_neg (by omega)] at h; obtain ⟨e, g, q⟩ := I.a7 h; exact ⟨e, g, q.below hb q.lt⟩
  · intro h; rw [sg hl 1 8 (by omega), if_neg (by omega)] at h; obtain ⟨e, g, q⟩ := I.a8 h; exact ⟨e, g, q.below hb q.lt⟩
  · intro h k; rw [sg hl 1 6 (by omega), if_neg (by omega)] at h; rw [sg hl 1 7 (by omega), if_neg (by omega)] at k; exact I.d67 h k
  · intro h k; rw [sg hl 1 6 (by omega), if_neg (by omega)] at h; rw [sg hl 1 8 (by omega), if_neg (by omega)] at k; exact I.d68 h k
  · intro h k; rw [sg hl 1 7 (by omega), if_neg (by omega)] at h; rw [sg hl 1 8 (by omega), if_neg (by omega)] at k; exact I.d78 h k
theorem Inv7.s2 {l : Array Bool} {w0 w' : World} {s t u : List Nat} {x11 x12 x13 x32 x33 x34 x35 x36 x37 : Value} {b1 b2 b3 : Nat} (hl : l.size = 12) (I : Inv7 l w0 w' s t u x11 x12 x13 x32 x33 x34 x35 x36 x37 b1 b2 b3) :
    Inv7 (l.setIfInBounds 2 true) w0 w' s t u x11 x12 x13 x32 x33 (.agg (row8 t).toArray) x35 x36 x37 b1 b2 b3 := by
  constructor
  · rw [sg hl 2 9 (by omega), if_neg (by omega)]; exact I.late9
  · rw [sg hl 2 10 (by omega), if_neg (by omega)]; exact I.late10
  · rw [sg hl 2 11 (by omega), if_neg (by omega)]; exact I.late11
  · exact I.below
  · intro h; rw [sg hl 2 0 (by omega), if_neg (by omega)] at h; exact I.v0 h
  · intro h; rw [sg hl 2 1 (by omega), if_neg (by omega)] at h; exact I.v1 h
  · exact fun _ => rfl
  · intro h; rw [sg hl 2 3 (by omega), if_neg (by omega)] at h; exact I.v3 h
  · intro h; rw [sg hl 2 4 (by omega), if_neg (by omega)] at h; exact I.v4 h
  · intro h; rw [sg hl 2 5 (by omega), if_neg (by omega)] at h; exact I.v5 h
  · intro h; rw [sg hl 2 6 (by omega), if_neg (by omega)] at h; exact I.a6 h
  · intro h; rw [sg hl 2 7 (by omega), if_neg (by omega)] at h; exact I.a7 h
  · intro h; rw [sg hl 2 8 (by omega), if_neg (by omega)] at h; exact I.a8 h
  · intro h k; rw [sg hl 2 6 (by omega), if_neg (by omega)] at h; rw [sg hl 2 7 (by omega), if_neg (by omega)] at k; exact I.d67 h k
  · intro h k; rw [sg hl 2 6 (by omega), if_neg (by omega)] at h; rw [sg hl 2 8 (by omega), if_neg (by omega)] at k; exact I.d68 h k
  · intro h k; rw [sg hl 2 7 (by omega), if_neg (by omega)] at h; rw [sg hl 2 8 (by omega), if_neg (by omega)] at k; exact I.d78 h k
theorem Inv7.s3 {l : Array Bool} {w0 w' : World} {s t u : List Nat} {x11 x12 x13 x32 x33 x34 x35 x36 x37 : Value} {b1 b2 b3 : Nat} (hl : l.size = 12) (I : Inv7 l w0 w' s t u x11 x12 x13 x32 x33 x34 x35 x36 x37 b1 b2 b3) {w'' : World} (hb : Below w'.heap.size w' w'') :
    Inv7 (l.setIfInBounds 3 true) w0 w'' s t u x11 x12 x13 x32 x33 x34 (.agg (row8 (tw t)).toArray) x36 x37 b1 b2 b3 := by
  constructor
  · rw [sg hl 3 9 (by omega), if_neg (by omega)]; exact I.late9
  · rw [sg hl 3 10 (by omega), if_neg (by omega)]; exact I.late10
  · rw [sg hl 3 11 (by omega), if_neg (by omega)]; exact I.late11
  · exact I.below.trans (hb.mono I.below.size)
  · intro h; rw [sg hl 3 0 (by omega), if_neg (by omega)] at h; exact I.v0 h
  · intro h; rw [sg hl 3 1 (by omega), if_neg (by omega)] at h; exact I.v1 h
  · intro h; rw [sg hl 3 2 (by omega), if_neg (by omega)] at h; exact I.v2 h
  · exact fun _ => rfl
  · intro h; rw [sg hl 3 4 (by omega), if_neg (by omega)] at h; exact I.v4 h
  · intro h; rw [sg hl 3 5 (by omega), if_neg (by omega)] at h; exact I.v5 h
  · intro h; rw [sg hl 3 6 (by omega), if_neg (by omega)] at h; obtain ⟨e, g, q⟩ := I.a6 h; exact ⟨e, g, q.below hb q.lt⟩
  · intro h; rw [sg hl 3 7 (by omega), if_neg (by omega)] at h; obtain ⟨e, g, q⟩ := I.a7 h; exact ⟨e, g, q.below hb q.lt⟩
  · intro h; rw [sg hl 3 8 (by omega), if_neg (by omega)] at h; obtain ⟨e, g, q⟩ := I.a8 h; exact ⟨e, g, q.below hb q.lt⟩
  · intro h k; rw [sg hl 3 6 (by omega), if_neg (by omega)] at h; rw [sg hl 3 7 (by omega), if_neg (by omega)] at k; exact I.d67 h k
  · intro h k; rw [sg hl 3 6 (by omega), if_neg (by omega)] at h; rw [sg hl 3 8 (by omega), if_neg (by omega)] at k; exact I.d68 h k
  · intro h k; rw [sg hl 3 7 (by omega), if_neg (by omega)] at h; rw [sg hl 3 8 (by omega), if_neg (by omega)] at k; exact I.d78 h k
theorem Inv7.s4 {l : Array Bool} {w0 w' : World} {s t u : List Nat} {x11 x12 x13 x32 x33 x34 x35 x36 x37 : Value} {b1 b2 b3 : Nat} (hl : l.size = 12) (I : Inv7 l w0 w' s t u x11 x12 x13 x32 x33 x34 x35 x36 x37 b1 b2 b3) :
    Inv7 (l.setIfInBounds 4 true) w0 w' s t u x11 x12 x13 x32 x33 x34 x35 (.agg (row8 u).toArray) x37 b1 b2 b3 := by
  constructor
  · rw [sg hl 4 9 (by omega), if_neg (by omega)]; exact I.late9
  · rw [sg hl 4 10 (by omega), if_neg (by omega)]; exact I.late10
  · rw [sg hl 4 11 (by omega), if_neg (by omega)]; exact I.late11
  · exact I.below
  · intro h; rw [sg hl 4 0 (by omega), if_neg (by omega)] at h; exact I.v0 h
  · intro h; rw [sg hl 4 1 (by omega), if_neg (by omega)] at h; exact I.v1 h
  · intro h; rw [sg hl 4 2 (by omega), if_neg (by omega)] at h; exact I.v2 h
  · intro h; rw [sg hl 4 3 (by omega), if_neg (by omega)] at h; exact I.v3 h
  · exact fun _ => rfl
  · intro h; rw [sg hl 4 5 (by omega), if_neg (by omega)] at h; exact I.v5 h
  · intro h; rw [sg hl 4 6 (by omega), if_neg (by omega)] at h; exact I.a6 h
  · intro h; rw [sg hl 4 7 (by omega), if_neg (by omega)] at h; exact I.a7 h
  · intro h; rw [sg hl 4 8 (by omega), if_neg (by omega)] at h; exact I.a8 h
  · intro h k; rw [sg hl 4 6 (by omega), if_neg (by omega)] at h; rw [sg hl 4 7 (by omega), if_neg (by omega)] at k; exact I.d67 h k
  · intro h k; rw [sg hl 4 6 (by omega), if_neg (by omega)] at h; rw [sg hl 4 8 (by omega), if_neg (by omega)] at k; exact I.d68 h k
  · intro h k; rw [sg hl 4 7 (by omega), if_neg (by omega)] at h; rw [sg hl 4 8 (by omega), if_neg (by omega)] at k; exact I.d78 h k
theorem Inv7.s5 {l : Array Bool} {w0 w' : World} {s t u : List Nat} {x11 x12 x13 x32 x33 x34 x35 x36 x37 : Value} {b1 b2 b3 : Nat} (hl : l.size = 12) (I : Inv7 l w0 w' s t u x11 x12 x13 x32 x33 x34 x35 x36 x37 b1 b2 b3) {w'' : World} (hb : Below w'.heap.size w' w'') :
    Inv7 (l.setIfInBounds 5 true) w0 w'' s t u x11 x12 x13 x32 x33 x34 x35 x36 (.agg (row8 (tw u)).toArray) b1 b2 b3 := by
  constructor
  · rw [sg hl 5 9 (by omega), if_neg (by omega)]; exact I.late9
  · rw [sg hl 5 10 (by omega), if_neg (by omega)]; exact I.late10
  · rw [sg hl 5 11 (by omega), if_neg (by omega)]; exact I.late11
  · exact I.below.trans (hb.mono I.below.size)
  · intro h; rw [sg hl 5 0 (by omega), if_neg (by omega)] at h; exact I.v0 h
  · intro h; rw [sg hl 5 1 (by omega), if_neg (by omega)] at h; exact I.v1 h
  · intro h; rw [sg hl 5 2 (by omega), if_neg (by omega)] at h; exact I.v2 h
  · intro h; rw [sg hl 5 3 (by omega), if_neg (by omega)] at h; exact I.v3 h
  · intro h; rw [sg hl 5 4 (by omega), if_neg (by omega)] at h; exact I.v4 h
  · exact fun _ => rfl
  · intro h; rw [sg hl 5 6 (by omega), if_neg (by omega)] at h; obtain ⟨e, g, q⟩ := I.a6 h; exact ⟨e, g, q.below hb q.lt⟩
  · intro h; rw [sg hl 5 7 (by omega), if_neg (by omega)] at h; obtain ⟨e, g, q⟩ := I.a7 h; exact ⟨e, g, q.below hb q.lt⟩
  · intro h; rw [sg hl 5 8 (by omega), if_neg (by omega)] at h; obtain ⟨e, g, q⟩ := I.a8 h; exact ⟨e, g, q.below hb q.lt⟩
  · intro h k; rw [sg hl 5 6 (by omega), if_neg (by omega)] at h; rw [sg hl 5 7 (by omega), if_neg (by omega)] at k; exact I.d67 h k
  · intro h k; rw [sg hl 5 6 (by omega), if_neg (by omega)] at h; rw [sg hl 5 8 (by omega), if_neg (by omega)] at k; exact I.d68 h k
  · intro h k; rw [sg hl 5 7 (by omega), if_neg (by omega)] at h; rw [sg hl 5 8 (by omega), if_neg (by omega)] at k; exact I.d78 h k
theorem Inv7.s6 {l : Array Bool} {w0 w' : World} {s t u : List Nat} {x11 x12 x13 x32 x33 x34 x35 x36 x37 : Value} {b1 b2 b3 : Nat} (hl : l.size = 12) (I : Inv7 l w0 w' s t u x11 x12 x13 x32 x33 x34 x35 x36 x37 b1 b2 b3) :
    Inv7 (l.setIfInBounds 6 true) w0 (w'.alloc (.cells (row8 (twTo [] 0)).toArray 29)) s t u (.pointer (some ⟨w'.heap.size, 0, none⟩)) x12 x13 x32 x33 x34 x35 x36 x37 w'.heap.size b2 b3 := by
  constructor
  · rw [sg hl 6 9 (by omega), if_neg (by omega)]; exact I.late9
  · rw [sg hl 6 10 (by omega), if_neg (by omega)]; exact I.late10
  · rw [sg hl 6 11 (by omega), if_neg (by omega)]; exact I.late11
  · exact I.below.alloc I.below.size _
  · intro h; rw [sg hl 6 0 (by omega), if_neg (by omega)] at h; exact I.v0 h
  · intro h; rw [sg hl 6 1 (by omega), if_neg (by omega)] at h; exact I.v1 h
  · intro h; rw [sg hl 6 2 (by omega), if_neg (by omega)] at h; exact I.v2 h
  · intro h; rw [sg hl 6 3 (by omega), if_neg (by omega)] at h; exact I.v3 h
  · intro h; rw [sg hl 6 4 (by omega), if_neg (by omega)] at h; exact I.v4 h
  · intro h; rw [sg hl 6 5 (by omega), if_neg (by omega)] at h; exact I.v5 h
  · exact fun _ => ⟨rfl, I.below.size, Blk.new _ _ _ _ rfl⟩
  · intro h; rw [sg hl 6 7 (by omega), if_neg (by omega)] at h; obtain ⟨e, g, q⟩ := I.a7 h; exact ⟨e, g, q.alloc _⟩
  · intro h; rw [sg hl 6 8 (by omega), if_neg (by omega)] at h; obtain ⟨e, g, q⟩ := I.a8 h; exact ⟨e, g, q.alloc _⟩
  · intro _ h; rw [sg hl 6 7 (by omega), if_neg (by omega)] at h; have := (I.a7 h).2.2.lt; omega
  · intro _ h; rw [sg hl 6 8 (by omega), if_neg (by omega)] at h; have := (I.a8 h).2.2.lt; omega
  · intro h k; rw [sg hl 6 7 (by omega), if_neg (by omega)] at h; rw [sg hl 6 8 (by omega), if_neg (by omega)] at k; exact I.d78 h k
theorem Inv7.s7 {l : Array Bool} {w0 w' : World} {s t u : List Nat} {x11 x12 x13 x32 x33 x34 x35 x36 x37 : Value} {b1 b2 b3 : Nat} (hl : l.size = 12) (I : Inv7 l w0 w' s t u x11 x12 x13 x32 x33 x34 x35 x36 x37 b1 b2 b3) :
    Inv7 (l.setIfInBounds 7 true) w0 (w'.alloc (.cells (row8 (twTo [] 0)).toArray 29)) s t u x11 (.pointer (some ⟨w'.heap.size, 0, none⟩)) x13 x32 x33 x34 x35 x36 x37 b1 w'.heap.size b3 := by
  constructor
  · rw [sg hl 7 9 (by omega), if_neg (by omega)]; exact I.late9
  · rw [sg hl 7 10 (by omega), if_neg (by omega)]; exact I.late10
  · rw [sg hl 7 11 (by omega), if_neg (by omega)]; exact I.late11
  · exact I.below.alloc I.below.size _
  · intro h; rw [sg hl 7 0 (by omega), if_neg (by omega)] at h; exact I.v0 h
  · intro h; rw [sg hl 7 1 (by omega), if_neg (by omega)] at h; exact I.v1 h
  · intro h; rw [sg hl 7 2 (by omega), if_neg (by omega)] at h; exact I.v2 h
  · intro h; rw [sg hl 7 3 (by omega), if_neg (by omega)] at h; exact I.v3 h
  · intro h; rw [sg hl 7 4 (by omega), if_neg (by omega)] at h; exact I.v4 h
  · intro h; rw [sg hl 7 5 (by omega), if_neg (by omega)] at h; exact I.v5 h
  · intro h; rw [sg hl 7 6 (by omega), if_neg (by omega)] at h; obtain ⟨e, g, q⟩ := I.a6 h; exact ⟨e, g, q.alloc _⟩
  · exact fun _ => ⟨rfl, I.below.size, Blk.new _ _ _ _ rfl⟩
  · intro h; rw [sg hl 7 8 (by omega), if_neg (by omega)] at h; obtain ⟨e, g, q⟩ := I.a8 h; exact ⟨e, g, q.alloc _⟩
  · intro h _; rw [sg hl 7 6 (by omega), if_neg (by omega)] at h; have := (I.a6 h).2.2.lt; omega
  · intro h k; rw [sg hl 7 6 (by omega), if_neg (by omega)] at h; rw [sg hl 7 8 (by omega), if_neg (by omega)] at k; exact I.d68 h k
  · intro _ h; rw [sg hl 7 8 (by omega), if_neg (by omega)] at h; have := (I.a8 h).2.2.lt; omega
theorem Inv7.s8 {l : Array Bool} {w0 w' : World} {s t u : List Nat} {x11 x12 x13 x32 x33 x34 x35 x36 x37 : Value} {b1 b2 b3 : Nat} (hl : l.size = 12) (I : Inv7 l w0 w' s t u x11 x12 x13 x32 x33 x34 x35 x36 x37 b1 b2 b3) :
    Inv7 (l.setIfInBounds 8 true) w0 (w'.alloc (.cells (row8 (twTo [] 0)).toArray 29)) s t u x11 x12 (.pointer (some ⟨w'.heap.size, 0, none⟩)) x32 x33 x34 x35 x36 x37 b1 b2 w'.heap.size := by
  constructor
  · rw [sg hl 8 9 (by omega), if_neg (by omega)]; exact I.late9
  · rw [sg hl 8 10 (by omega), if_neg (by omega)]; exact I.late10
  · rw [sg hl 8 11 (by omega), if_neg (by omega)]; exact I.late11
  · exact I.below.alloc I.below.size _
  · intro h; rw [sg hl 8 0 (by omega), if_neg (by omega)] at h; exact I.v0 h
  · intro h; rw [sg hl 8 1 (by omega), if_neg (by omega)] at h; exact I.v1 h
  · intro h; rw [sg hl 8 2 (by omega), if_neg (by omega)] at h; exact I.v2 h
  · intro h; rw [sg hl 8 3 (by omega), if_neg (by omega)] at h; exact I.v3 h
  · intro h; rw [sg hl 8 4 (by omega), if_neg (by omega)] at h; exact I.v4 h
  · intro h; rw [sg hl 8 5 (by omega), if_neg (by omega)] at h; exact I.v5 h
  · intro h; rw [sg hl 8 6 (by omega), if_neg (by omega)] at h; obtain ⟨e, g, q⟩ := I.a6 h; exact ⟨e, g, q.alloc _⟩
  · intro h; rw [sg hl 8 7 (by omega), if_neg (by omega)] at h; obtain ⟨e, g, q⟩ := I.a7 h; exact ⟨e, g, q.alloc _⟩
  · exact fun _ => ⟨rfl, I.below.size, Blk.new _ _ _ _ rfl⟩
  · intro h k; rw [sg hl 8 6 (by omega), if_neg (by omega)] at h; rw [sg hl 8 7 (by omega), if_neg (by omega)] at k; exact I.d67 h k
  · intro h _; rw [sg hl 8 6 (by omega), if_neg (by omega)] at h; have := (I.a6 h).2.2.lt; omega
  · intro h _; rw [sg hl 8 7 (by omega), if_neg (by omega)] at h; have := (I.a7 h).2.2.lt; omega
end Go.Proofs.Ythbeabpbogekcaa
