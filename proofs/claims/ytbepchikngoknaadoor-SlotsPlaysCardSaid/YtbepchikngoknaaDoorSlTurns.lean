/- SlotsPlays' own calls: how many turns, and a call on both sides: contracts. Written by gen_sldo.py. Own work. -/
import Derived.Test.YtbepchikngoknaaDoorActsS
import Derived.Test.YtbepchikngoknaaDoorSlPX
import Derived.Test.YtbepchikngoknaaDoorSlDY
import Derived.Test.YtbepchikngoknaaDoorZed
namespace Go.Proofs.YtbepchikngoknaaDoor
open Go.ChangeShapes Go.WideShapes Go.ChangeAt Go.RowKit
open SM AM WM SL
theorem acs_turns {x : AS} (h : Bytes 16 x.salt) (u f : Value) : (acs x u f)[19]? = some (.int .i64 x.turns) := by
  unfold acs
  rw [show 19 = 16 + 1 + 1 + 1 from rfl, List.getElem?_cons_succ, List.getElem?_cons_succ, List.getElem?_cons_succ, List.getElem?_append_right (by rw [row8_len, h.1]; exact Nat.le_refl _), row8_len, h.1]; rfl
theorem acs_salt {x : AS} (u f : Value) (j : Nat) (v : Value) (hv : (row8 x.salt)[j]? = some v) : (acs x u f)[3 + j]? = some v := by
  unfold acs
  rw [show 3 + j = j + 1 + 1 + 1 by omega, List.getElem?_cons_succ, List.getElem?_cons_succ, List.getElem?_cons_succ, List.getElem?_append_left (by
    by_cases h : j < (row8 x.salt).length
    · exact h
    · rw [List.getElem?_eq_none (by omega)] at hv; cases hv)]
  exact hv
/-- Turns of a call: few, or none that may be. -/
def few (t : Int) : Int := if t < 1 ∨ 4096 < t then t else 1 + t % 8
set_option maxRecDepth 100000 in
theorem turns_any (x : AS) (u f : Value) (w : World) (h : Bytes 16 x.salt) : Calls Tryd.prog 40 #[.agg (acs x u f).toArray] w fun e w' => e = .returned (.int .i64 (few x.turns)) ∧ Below w.heap.size w w' := by
  obtain ⟨C, hC⟩ : ∃ C, C = acs x u f := ⟨_, rfl⟩
  obtain ⟨t, ht⟩ : ∃ t, t = x.turns := ⟨_, rfl⟩
  have c19 : (w.alloc (.cells C.toArray 56)).cell? ⟨w.heap.size, 19, none⟩ = some (.int .i64 t) := (Blk.new w 56 C _ rfl).cell 19 _ (by rw [hC, ht]; exact acs_turns h u f)
  have W1 := Lib.hid ((Below.refl w.heap.size w).alloc (Nat.le_refl _) (.cells C.toArray 56))
  rw [← hC, ← ht]
  clear hC ht h
  by_cases h1 : t < 1
  · rw [show few t = t by unfold few; rw [if_pos (.inl h1)]]
    go_enter Tryd.func40, Tryd.ntmps40
    go_wp2_with fail
    go_ret
    exact ⟨rfl, W1.out⟩
  · by_cases h2 : 4096 < t
    · rw [show few t = t by unfold few; rw [if_pos (.inr h2)]]
      go_enter Tryd.func40, Tryd.ntmps40
      go_wp2_with fail
      go_ret
      exact ⟨rfl, W1.out⟩
    · obtain ⟨n, rfl⟩ : ∃ n : Nat, t = (n : Int) := ⟨t.toNat, by omega⟩
      rw [show few (n : Int) = 1 + (n : Int) % 8 by unfold few; rw [if_neg (by omega)]]
      have hn : n ≤ 4096 := by omega
      have aw : IntKind.i64.wrap (1 + (n : Int) % 8) = 1 + (n : Int) % 8 := by rw [IntKind.wrap_i64]; omega
      go_enter Tryd.func40, Tryd.ntmps40
      go_wp2_with fail
      go_ret
      exact ⟨rfl, W1.out⟩
/-- What a call does on numbers. -/
def stepE (T : List Slot) (x : AS) : Int := if x.kind % 4 = 2 then rerr T x.pass else if x.kind % 4 = 3 then terr T x.pass x.fresh (few x.turns) else aerr T x.pass (few x.turns)
def stepT (T : List Slot) (x : AS) (m : List Nat) : List Slot := if x.kind % 4 = 2 then remove T x.pass else if x.kind % 4 = 3 then rotate T x.pass x.fresh x.salt (few x.turns) else add T x.pass x.salt (few x.turns) m
def nxt (T : List Slot) (x : AS) (m : List Nat) : List Slot := if stepE T x = 0 then stepT T x m else T
theorem few_fits {t : Int} (h : -9223372036854775808 ≤ t ∧ t ≤ 9223372036854775807) : few t < 65536 ∨ 4096 < few t := by unfold few; split <;> omega
theorem add_ok {T : List Slot} (hT : Tok T) (p : List Nat) {salt m : List Nat} (t : Int) (hs : Bytes 16 salt) (hm : Bytes 32 m) : Tok (add T p salt t m) := by
  unfold add
  split
  · rename_i h
    refine hT.set _ (made_ok p ?_ hs hm)
    have hc : comes T p t = 0 := by
      unfold aerr at h
      split at h
      · assumption
      · rename_i q; exact absurd h q
    obtain ⟨_, h1, h2⟩ := comes_none hc
    omega
  · exact zero_ok
theorem remove_ok {T : List Slot} (hT : Tok T) (p : List Nat) : Tok (remove T p) := by
  unfold remove
  split
  · exact hT.set _ none_ok
  · exact zero_ok
theorem rotate_ok {T : List Slot} (hT : Tok T) (p q : List Nat) {salt : List Nat} (t : Int) (hs : Bytes 16 salt) : Tok (rotate T p q salt t) := by
  unfold rotate
  split
  · rename_i h
    refine hT.set _ (made_ok q ?_ hs (okey_bytes hT p))
    have hc : comes T q t = 0 := by
      unfold terr at h
      split at h
      · exact h
      · rename_i r; exact absurd h r
    obtain ⟨_, h1, h2⟩ := comes_none hc
    omega
  · exact zero_ok
theorem stepT_ok {T : List Slot} (hT : Tok T) (x : AS) {m : List Nat} (hs : Bytes 16 x.salt) (hm : Bytes 32 m) : Tok (stepT T x m) := by
  unfold stepT
  split
  · exact remove_ok hT _
  · split
    · exact rotate_ok hT _ _ _ hs
    · exact add_ok hT _ _ hs hm
theorem nxt_ok {T : List Slot} (hT : Tok T) (x : AS) {m : List Nat} (hs : Bytes 16 x.salt) (hm : Bytes 32 m) : Tok (nxt T x m) := by
  unfold nxt
  split
  · exact stepT_ok hT x hs hm
  · exact hT
end Go.Proofs.YtbepchikngoknaaDoor
