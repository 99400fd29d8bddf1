/- A set of clusters in memory: contracts of package alloc's there, Has, Total, Mark and Clear. Own work. -/
import Derived.Test.YtlckhlcccifbfaaDoorAlBits
import Derived.Test.YtlckhlcccifbfaaDoorReg
import Derived.RegionTactic
import Derived.BigQuiet
import Derived.BigRegion
namespace Go.Proofs.YtlckhlcccifbfaaDoor
open Go.ChangeShapes Go.WideShapes Go.ChangeAt Go.RowKit
def row64 (l : List Nat) : List Value := l.map fun n : Nat => Value.int .u64 (n : Int)
theorem row64_len (l : List Nat) : (row64 l).length = l.length := by unfold row64; simp
theorem row64_val (l : List Nat) (k : Nat) (h : k < l.length) : (row64 l)[k]? = some (.int .u64 ((l.getD k 0 : Nat) : Int)) := by
  unfold row64
  rw [List.getElem?_map, List.getD_eq_getElem?_getD, List.getElem?_eq_getElem h]; rfl
theorem row64_set (l : List Nat) (k v : Nat) : (row64 l).set k (.int .u64 (v : Int)) = row64 (l.set k v) := by
  unfold row64; simp
/-- In block b lies a set of T clusters, its words ws in block g. -/
structure Al (w : World) (b g T : Nat) (ws : List Nat) : Prop where
  set : Blk w b 53 [.int .i64 (T : Int), .slice (some ⟨g, 0, none⟩) ws.length ws.length]
  words : Blk w g 59 (row64 ws)
  apart : b ≠ g
/-- .. of which u are used. -/
def Sets (w : World) (b g T : Nat) (u : Nat → Bool) : Prop := ∃ ws, Al w b g T ws ∧ AL.Rep ws T u
theorem Al.total {w : World} {b g T : Nat} {ws : List Nat} (h : Al w b g T ws) : w.cell? ⟨b, 0, none⟩ = some (.int .i64 (T : Int)) := h.set.cell 0 _ rfl
theorem Al.slice {w : World} {b g T : Nat} {ws : List Nat} (h : Al w b g T ws) : w.cell? ⟨b, 1, none⟩ = some (.slice (some ⟨g, 0, none⟩) ws.length ws.length) := h.set.cell 1 _ rfl
theorem Al.word {w : World} {b g T : Nat} {ws : List Nat} (h : Al w b g T ws) (j : Nat) (hj : j < ws.length) : w.cell? ⟨g, j, none⟩ = some (.int .u64 ((ws.getD j 0 : Nat) : Int)) := h.words.cell j _ (row64_val ws j hj)
theorem Al.below {w w' : World} {b g T : Nat} {ws : List Nat} (h : Al w b g T ws) (hb : Below w.heap.size w w') : Al w' b g T ws := ⟨h.set.below hb h.set.lt, h.words.below hb h.words.lt, h.apart⟩
theorem Al.grown {w w' : World} {b g T : Nat} {ws : List Nat} (h : Al w b g T ws) {row : Option Nat} (hg : w.grownBy w' row) (h1 : some b ≠ row) (h2 : some g ≠ row) : Al w' b g T ws := ⟨Blk.grown h.set hg h1, Blk.grown h.words hg h2, h.apart⟩
theorem Sets.below {w w' : World} {b g T : Nat} {u : Nat → Bool} (h : Sets w b g T u) (hb : Below w.heap.size w w') : Sets w' b g T u := by
  obtain ⟨ws, h1, h2⟩ := h; exact ⟨ws, h1.below hb, h2⟩
theorem Sets.grown {w w' : World} {b g T : Nat} {u : Nat → Bool} (h : Sets w b g T u) {row : Option Nat} (hg : w.grownBy w' row) (h1 : some b ≠ row) (h2 : some g ≠ row) : Sets w' b g T u := by
  obtain ⟨ws, h3, h4⟩ := h; exact ⟨ws, h3.grown hg h1 h2, h4⟩
theorem Sets.drewN {w : World} {b g T : Nat} {u : Nat → Bool} (h : Sets w b g T u) (n : Nat) : Sets (w.drewN n) b g T u := h.below (below_dN (Below.refl _ _) n)
theorem Sets.lt {w : World} {b g T : Nat} {u : Nat → Bool} (h : Sets w b g T u) : b < w.heap.size ∧ g < w.heap.size ∧ b ≠ g := by
  obtain ⟨ws, h1, _⟩ := h; exact ⟨h1.set.lt, h1.words.lt, h1.apart⟩
theorem Sets.most {w : World} {b g T : Nat} {u : Nat → Bool} (h : Sets w b g T u) : T ≤ 65536 := by
  obtain ⟨ws, _, h2⟩ := h; exact h2.most
theorem Sets.out {w : World} {b g T : Nat} {u : Nat → Bool} (h : Sets w b g T u) : ∀ n, T ≤ n → u n = false := by
  obtain ⟨ws, _, h2⟩ := h; exact h2.out
theorem quietC {P : Program} {f : FuncId} {args : Array Value} {w : World} {v : Value} {C : World → Prop} (h : Calls P f args w fun e w' => e = .returned v ∧ w' = w) (hC : C w) : Calls P f args w fun e w'' => e = .returned v ∧ C w'' :=
  h.mono fun _ _ ⟨he, hw⟩ => ⟨he, hw ▸ hC⟩
theorem quietD {P : Program} {f : FuncId} {args : Array Value} {w : World} {v : Value} {n : Nat} (h : Calls P f args (w.drewN n) fun e w' => e = .returned v ∧ ∃ m, w' = (w.drewN n).drewN m) : Calls P f args (w.drewN n) fun e w'' => e = .returned v ∧ ∃ m, w'' = w.drewN m :=
  h.mono fun _ _ ⟨he, m, hw⟩ => ⟨he, n + m, by rw [hw, World.drewN_drewN]⟩
theorem athere_any (b g T n : Nat) (u : Nat → Bool) (w : World) (h : Sets w b g T u) : Calls Tryd.prog 28 #[.pointer (some ⟨b, 0, none⟩), .int .u32 (n : Int)] w fun e w' => e = .returned (.bool (decide (n < T))) ∧ w' = w := by
  obtain ⟨ws, hA, hR⟩ := h
  have c0 := hA.total
  have hT := hR.most
  have hW : IntKind.u32.wrap (T : Int) = (T : Int) := by simp [IntKind.wrap, IntKind.signed, IntKind.bits]; omega
  clear hA hR
  go_enter Tryd.func28, Tryd.ntmps28
  go_wp2_with fail
  go_ret
  exact ⟨by simp, rfl⟩
theorem ahas_nil (n : Nat) (w : World) : Calls Tryd.prog 18 #[.pointer none, .int .u32 (n : Int)] w fun e w' => e = .returned (.bool false) ∧ ∃ m, w' = w.drewN m := by
  go_enter Tryd.func18, Tryd.ntmps18
  go_wp2_with fail
  go_big_quiet (fail)
  go_wp2_with fail
  go_ret
  exact ⟨rfl, _, rfl⟩
theorem and_bit (x i : Nat) : ((x &&& 2 ^ i) ≠ 0) ↔ x.testBit i = true := by
  rw [Nat.testBit_eq_decide_div_mod_eq, nat_bit]
  have hp : 0 < 2 ^ i := Nat.two_pow_pos i
  rcases Nat.mod_two_eq_zero_or_one (x / 2 ^ i) with q | q
  · simp [q]
  · simp [q]
set_option maxHeartbeats 1000000 in
theorem ahas_any (b g T n : Nat) (u : Nat → Bool) (w : World) (hn : n < 4294967296) (h : Sets w b g T u) : Calls Tryd.prog 18 #[.pointer (some ⟨b, 0, none⟩), .int .u32 (n : Int)] w fun e w' => e = .returned (.bool (u n)) ∧ ∃ m, w' = w.drewN m := by
  have H := Lib.hid h
  obtain ⟨ws, hA, hR⟩ := h
  by_cases hlt : n < T
  · have hl := hR.at_ n hlt
    have c1 := hA.slice
    have c2 := hA.word (n / 64) hl
    have hbit := hR.bit n
    have hwd := hR.word (n / 64)
    unfold AL.has at hbit
    obtain ⟨x, hx⟩ : ∃ x, x = ws.getD (n / 64) 0 := ⟨_, rfl⟩
    rw [← hx] at c2 hbit hwd
    obtain ⟨p, hp⟩ : ∃ p : Nat, p = 2 ^ (n % 64) := ⟨_, rfl⟩
    have hp1 := AL.bit_lt (n % 64) (Nat.mod_lt _ (by omega))
    rw [← hp] at hp1
    have hand := u64_and_nat x p hwd hp1
    have hai := and_bit x (n % 64)
    rw [← hp, hbit] at hai
    have hd : decide (n < T) = true := by simp [hlt]
    have hq : ((n : Int) / 64).toNat = n / 64 := by omega
    have hq1 : (n : Int) / 64 < (ws.length : Int) := by omega
    have hq2 : (0 : Int) ≤ (n : Int) / 64 := by omega
    have HP := Lib.hid hp
    obtain ⟨m, hm⟩ : ∃ m, m = x &&& p := ⟨_, rfl⟩
    rw [← hm] at hand hai
    clear hA hR hx hp hm hl hbit
    go_enter Tryd.func18, Tryd.ntmps18
    go_wp2_with fail
    go_big_quiet ((first | (go_at_call 28; refine quietC (athere_any b g T n u _ (H.out.drewN _)) ?_; exact ⟨_, rfl⟩) | (go_at_call 29; refine quietC (abit_p n p HP.out _) ?_; exact ⟨_, rfl⟩)))
    go_wp2_with fail
    go_ret
    refine ⟨?_, _, rfl⟩
    show Ending.returned (.bool ((m : Int) != 0)) = _
    have e : ((m : Int) != 0) = u n := by
      cases hu : u n with
      | true => have := hai.2 hu; simp; omega
      | false => have : ¬ m ≠ 0 := fun q => by rw [hai.1 q] at hu; cases hu
                 simp; omega
    rw [e]
  · have hu := hR.out n (by omega)
    have hd : decide (n < T) = false := by simp [hlt]
    clear hA hR
    go_enter Tryd.func18, Tryd.ntmps18
    go_wp2_with fail
    go_big_quiet ((go_at_call 28; refine quietC (athere_any b g T n u _ (H.out.drewN _)) ?_; exact ⟨_, rfl⟩))
    go_wp2_with fail
    go_ret
    exact ⟨by rw [hu]; rfl, _, rfl⟩
theorem atotal_nil (w : World) : Calls Tryd.prog 21 #[.pointer none] w fun e w' => e = .returned (.int .i64 0) ∧ w' = w := by
  go_enter Tryd.func21, Tryd.ntmps21
  go_wp2_with fail
  go_ret
  exact ⟨rfl, rfl⟩
theorem atotal_any (b g T : Nat) (u : Nat → Bool) (w : World) (h : Sets w b g T u) : Calls Tryd.prog 21 #[.pointer (some ⟨b, 0, none⟩)] w fun e w' => e = .returned (.int .i64 (T : Int)) ∧ w' = w := by
  obtain ⟨ws, hA, hR⟩ := h
  have c0 := hA.total
  clear hA hR
  go_enter Tryd.func21, Tryd.ntmps21
  go_wp2_with fail
  go_ret
  exact ⟨rfl, rfl⟩
theorem amark_nil (n : Nat) (w : World) : Calls Tryd.prog 16 #[.pointer none, .int .u32 (n : Int)] w fun e w' => e = .returned (.int .i64 1) ∧ w' = w := by
  go_enter Tryd.func16, Tryd.ntmps16
  go_wp2_with fail
  go_ret
  exact ⟨rfl, rfl⟩
theorem aclear_nil (n : Nat) (w : World) : Calls Tryd.prog 17 #[.pointer none, .int .u32 (n : Int)] w fun e w' => e = .returned (.int .i64 1) ∧ w' = w := by
  go_enter Tryd.func17, Tryd.ntmps17
  go_wp2_with fail
  go_ret
  exact ⟨rfl, rfl⟩
theorem grown_drewN {w w' : World} {row : Option Nat} (h : w.grownBy w' row) (n : Nat) : w.grownBy (w'.drewN n) row := only_dN h n
theorem amark_out (b g T n : Nat) (u : Nat → Bool) (w : World) (h : Sets w b g T u) (hn : T ≤ n) : Calls Tryd.prog 16 #[.pointer (some ⟨b, 0, none⟩), .int .u32 (n : Int)] w fun e w' => e = .returned (.int .i64 43) ∧ w' = w := by
  have HT := Lib.hid (athere_any b g T n u w h)
  have hd : decide (n < T) = false := by simp; omega
  rw [hd] at HT
  clear hd
  go_enter Tryd.func16, Tryd.ntmps16
  go_wp2_with (first | (go_at_call 28; (with_reducible refine HT.out.mono ?_); rintro e1 w1 ⟨rfl, hw1⟩; subst w1))
  go_ret
  exact ⟨rfl, rfl⟩
theorem amark_is (b g T n : Nat) (u : Nat → Bool) (w : World) (h : Sets w b g T u) (hn : n < T) (hu : u n = true) : Calls Tryd.prog 16 #[.pointer (some ⟨b, 0, none⟩), .int .u32 (n : Int)] w fun e w' => e = .returned (.int .i64 23) ∧ ∃ m, w' = w.drewN m := by
  have HT := Lib.hid (athere_any b g T n u w h)
  have HH := Lib.hid (ahas_any b g T n u w (by have := h.most; omega) h)
  have hd : decide (n < T) = true := by simp; omega
  rw [hd] at HT
  rw [hu] at HH
  clear hd
  go_enter Tryd.func16, Tryd.ntmps16
  go_wp2_with (first | (go_at_call 28; (with_reducible refine HT.out.mono ?_); rintro e1 w1 ⟨rfl, hw1⟩; subst w1) | (go_at_call 18; (with_reducible refine HH.out.mono ?_); rintro e1 w1 ⟨rfl, m1, hw1⟩; subst w1))
  go_ret
  exact ⟨rfl, _, rfl⟩
theorem aclear_out (b g T n : Nat) (u : Nat → Bool) (w : World) (h : Sets w b g T u) (hn : T ≤ n) : Calls Tryd.prog 17 #[.pointer (some ⟨b, 0, none⟩), .int .u32 (n : Int)] w fun e w' => e = .returned (.int .i64 43) ∧ w' = w := by
  have HT := Lib.hid (athere_any b g T n u w h)
  have hd : decide (n < T) = false := by simp; omega
  rw [hd] at HT
  clear hd
  go_enter Tryd.func17, Tryd.ntmps17
  go_wp2_with (first | (go_at_call 28; (with_reducible refine HT.out.mono ?_); rintro e1 w1 ⟨rfl, hw1⟩; subst w1))
  go_ret
  exact ⟨rfl, rfl⟩
theorem aclear_not (b g T n : Nat) (u : Nat → Bool) (w : World) (h : Sets w b g T u) (hn : n < T) (hu : u n = false) : Calls Tryd.prog 17 #[.pointer (some ⟨b, 0, none⟩), .int .u32 (n : Int)] w fun e w' => e = .returned (.int .i64 22) ∧ ∃ m, w' = w.drewN m := by
  have HT := Lib.hid (athere_any b g T n u w h)
  have HH := Lib.hid (ahas_any b g T n u w (by have := h.most; omega) h)
  have hd : decide (n < T) = true := by simp; omega
  rw [hd] at HT
  rw [hu] at HH
  clear hd
  go_enter Tryd.func17, Tryd.ntmps17
  go_wp2_with (first | (go_at_call 28; (with_reducible refine HT.out.mono ?_); rintro e1 w1 ⟨rfl, hw1⟩; subst w1) | (go_at_call 18; (with_reducible refine HH.out.mono ?_); rintro e1 w1 ⟨rfl, m1, hw1⟩; subst w1))
  go_ret
  exact ⟨rfl, _, rfl⟩
end Go.Proofs.YtlckhlcccifbfaaDoor
