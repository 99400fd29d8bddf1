/- The law's own helpers: two calls told the same; other names for the snapshots of a slice of the caller's own. Own work. -/
import Derived.Test.YtkagapgganoomaaCtSameB
import Derived.Test.YtkagapgganoomaaCtNames
import Derived.Test.YtkagapgganoomaaCtOrd
namespace Go.Proofs.Ytkagapgganoomaa
open Go.ChangeShapes Go.WideShapes Go.ChangeAt Go.RowKit
open RT CT
set_option maxRecDepth 100000 in
set_option maxHeartbeats 2000000 in
theorem ctold_any (c : Ct) (hc : CT.Ok c) (x : Int) (v u : Value) (w : World) (hv : RdT 34 w v c.snaps.length (sncs c.snaps)) (hu : RdT 34 w u c.snaps.length (sncs c.snaps)) (hn1 : c.snaps.length ≤ 140737488355328) :
    Calls Try.prog 31 #[.agg (ctc c v).toArray, .int .i64 x, .agg (ctc c u).toArray, .int .i64 x] w fun e w' => e = .returned (.bool true) ∧ Below w.heap.size w w' := by
  obtain ⟨ra, rq, rfl, -⟩ := hv.shape
  obtain ⟨sa, sq, rfl, -⟩ := hu.shape
  have HS := Lib.hid (fun W x y => show Calls Try.prog 17 #[.agg (ctc c (.slice ra c.snaps.length rq)).toArray, .agg (ctc c (.slice sa c.snaps.length sq)).toArray] W fun e w' => e = .returned (.bool true) ∧ Below W.heap.size W w' by
    have q := rsame_any c c hc hc (.slice ra c.snaps.length rq) (.slice sa c.snaps.length sq) W x y hn1
    rw [ctEq_iff.2 rfl] at q
    exact q)
  obtain ⟨LA, hLA⟩ : ∃ x, x = ctc c (.slice ra c.snaps.length rq) := ⟨_, rfl⟩
  obtain ⟨LB, hLB⟩ : ∃ x, x = ctc c (.slice sa c.snaps.length sq) := ⟨_, rfl⟩
  have LA34 := Lib.hid (show LA.length = 34 by rw [hLA]; exact ctc_len hc.top _)
  have LB34 := Lib.hid (show LB.length = 34 by rw [hLB]; exact ctc_len hc.top _)
  rw [← hLA, ← hLB] at HS ⊢
  have W2 := Lib.hid (((Below.refl w.heap.size w).alloc (Nat.le_refl _) (.cells LA.toArray 29)).alloc (by simp) (.cells LB.toArray 29))
  have XA := Lib.hid ((Blk.new w 29 LA _ rfl).alloc (.cells LB.toArray 29))
  have XB := Lib.hid (Blk.new (w.alloc (.cells LA.toArray 29)) 29 LB (w.heap.size + 1) (by simp))
  have VA := Lib.hid (hv.below W2.out)
  have VB := Lib.hid (hu.below W2.out)
  obtain ⟨n, hn⟩ : ∃ n, n = c.snaps.length := ⟨_, rfl⟩
  obtain ⟨cs, hcs⟩ : ∃ n, n = sncs c.snaps := ⟨_, rfl⟩
  rw [← hn, ← hcs] at HS VA VB
  clear hn hcs hLA hLB hv hu hc hn1
  go_enter Try.func31, Try.ntmps31
  go_wp2_with ((fail_if_success (with_reducible show bodyPost _ _ _ _ _ _)); first
    | ((with_reducible show wpList _ _ _ (Oper.mk (some 9) (.load _ _) _ _ _ _ :: _) _ _); refine wpList_load_mid rfl 29 (.tmp 4) rfl w.heap.size 0 rfl LA _ XA.out.range Try.underlying29 rfl (by rw [LA34.out]; exact infoCtC) ?_)
    | ((with_reducible show wpList _ _ _ (Oper.mk (some 10) (.load _ _) _ _ _ _ :: _) _ _); refine wpList_load_mid rfl 29 (.tmp 6) rfl (w.heap.size + 1) 0 rfl LB _ XB.out.range Try.underlying29 rfl (by rw [LB34.out]; exact infoCtC) ?_)
    | (go_at_call 17; (with_reducible refine (HS.out _ VA.out VB.out).mono ?_); rintro e w3 ⟨rfl, b3⟩; have W3 := Lib.hid (W2.out.on b3); clear b3))
  go_ret
  exact ⟨by first | rfl | simp, W3.out⟩
/-- A block that is the call's own, whole. -/
theorem own_blkT {w : World} {B n k : Nat} {t : TypeId} {v : Value} {CS : List Value} (h : w.ownsRow B t k v n CS) : (v = .slice none 0 0 ∧ n = 0) ∨ ∃ g cap cs, v = .slice (some ⟨g, 0, none⟩) n cap ∧ B ≤ g ∧ Blk w g t cs ∧ cs.length = cap * k ∧ n ≤ cap := by
  rcases h.2 with q | ⟨g, cap, cur, e, hB, hh, hn, _, hs, _⟩
  · exact .inl q
  · exact .inr ⟨g, cap, cur.toList, e, hB, by unfold Blk; rw [hh], by rw [Array.length_toList, hs], hn⟩
set_option maxRecDepth 100000 in
set_option maxHeartbeats 2000000 in
theorem cturn_any (c : Ct) (hc : CT.Ok c) (B : Nat) (v : Value) (w : World) (ho : w.ownsRow B 60 34 v c.snaps.length (sncs c.snaps)) (hn1 : c.snaps.length ≤ 1000000) :
    Calls Try.prog 32 #[.agg (ctc c v).toArray] w fun e w' => e = .returned (.tuple #[]) ∧ w.grownBy w' v.ownBlock := by
  obtain ⟨ra, rq, rfl, -⟩ := (owned_rd ho).shape
  have hob := own_blkT ho
  obtain ⟨row, hrow⟩ : ∃ row, row = (Value.slice ra c.snaps.length rq).ownBlock := ⟨_, rfl⟩
  have hrw : ∀ g, row = some g → g < w.heap.size := fun g hg => (ho.lt g (by rw [← hrow]; exact hg)).2
  have hbk : 0 < c.snaps.length → ∃ g cs, ra = some ⟨g, 0, none⟩ ∧ row = some g ∧ Blk w g 60 cs ∧ c.snaps.length * 34 ≤ cs.length := fun hp => by
    rcases hob with ⟨_, q⟩ | ⟨g, cap, cs, e, _, hb, hl, hq⟩
    · omega
    · injection e with e1 e2 e3
      exact ⟨g, cs, e1, by rw [hrow, e1]; rfl, hb, by rw [hl]; exact Nat.mul_le_mul_right 34 hq⟩
  rw [← hrow]
  obtain ⟨L, hL⟩ : ∃ L, L = ctc c (.slice ra c.snaps.length rq) := ⟨_, rfl⟩
  have C1 := Lib.hid (show L[33]? = some (.slice ra c.snaps.length rq) by rw [hL]; exact ctc_snaps hc.top _)
  rw [← hL]
  obtain ⟨n, hn⟩ : ∃ n, n = c.snaps.length := ⟨_, rfl⟩
  rw [← hn] at C1 hbk hn1
  have X1 := Lib.hid (Blk.new w 29 L _ rfl)
  have G1 := Lib.hid ((grown_of_below (Below.refl w.heap.size w |>.alloc (Nat.le_refl _) (.cells L.toArray 29)) row))
  have HNE := Lib.hid (show ∀ g, row = some g → g < w.heap.size from hrw)
  have HBK := Lib.hid (fun (hp : 0 < n) => show ∃ g cs, ra = some ⟨g, 0, none⟩ ∧ row = some g ∧ Blk (w.alloc (.cells L.toArray 29)) g 60 cs ∧ n * 34 ≤ cs.length by
    obtain ⟨g, cs, e1, e2, hb, hl⟩ := hbk hp
    exact ⟨g, cs, e1, e2, hb.alloc _, hl⟩)
  obtain ⟨w1, hw1⟩ : ∃ x, x = w.alloc (.cells L.toArray 29) := ⟨_, rfl⟩
  rw [← hw1] at X1 G1 HBK
  have HWB := Lib.hid (show w.heap.size < w1.heap.size by rw [hw1]; simp)
  clear hob hrow hrw hbk hL hn hc ho
  go_enter Try.func32, Try.ntmps32
  go_wp2_with fail
  rw [← hw1]
  clear hw1
  go_loopw [2] (fun i wr => ∃ k : Nat, k ≤ n ∧ i = .int .i64 (k : Int) ∧ w1.grownBy wr row ∧ (0 < n → ∃ g cs, ra = some ⟨g, 0, none⟩ ∧ row = some g ∧ Blk wr g 60 cs ∧ n * 34 ≤ cs.length)) (fun i _ => n - (intOf i).toNat)
  case atStart => exact ⟨0, Nat.zero_le _, rfl, World.grownBy.refl _ _, HBK.out⟩
  case round =>
    obtain ⟨k, hk, rfl, hg, hbk⟩ := hrel
    have G2 := Lib.hid hg
    have hX2 := X1.out.grown hg (fun e => by have := HNE.out _ e.symm; omega)
    have X2 := Lib.hid hX2
    have d1 := hX2.cell 33 _ C1.out
    by_cases hlt : k < n
    · have hklt : (k : Int) < (n : Int) := by omega
      have hk0 : (0 : Int) ≤ (k : Int) := by omega
      obtain ⟨g, cs, rfl, rfl, hb, hl⟩ := hbk (by omega)
      have B2 := Lib.hid hb
      have HL := Lib.hid (show k * 34 < cs.length by omega)
      have HL2 := Lib.hid (show ∀ u, n * 34 ≤ (cs.set (k * 34) u).length by intro u; rw [List.length_set]; exact hl)
      clear hg hbk hb hl hX2 HBK
      go_wp2_with ((fail_if_success (with_reducible show bodyPost _ _ _ _ _ _)); first
        | ((with_reducible show wpList _ _ _ (Oper.mk _ (.store _ (.tmp 14) _) _ _ _ _ :: _) _ _); refine wpList_put1S rfl 9 (.tmp 14) _ rfl g (k * 34) (.string ⟨#[63]⟩) rfl rfl 60 cs B2.out HL.out infoStrS rfl rfl ?_; intro w7 b7 g7; have B7 := Lib.hid b7; have G7 := Lib.hid (G2.out.trans g7); clear b7 g7))
      exact ⟨⟨k + 1, by omega, by go_num, G7.out, fun _ => ⟨g, _, rfl, rfl, B7.out, HL2.out _⟩⟩, by simp [intOf]; omega⟩
    · have hklt : ¬ (k : Int) < (n : Int) := by omega
      clear hg hbk hX2 HBK
      go_wp2_with fail
      exact bodyPost_end (results_none rfl _ _ _) rfl ⟨rfl, G1.out.trans G2.out⟩
theorem drop_okT {c : Ct} (h : Ok c) (n : ByteArray) : Ok (drop c n).1 := by
  unfold drop
  split
  · exact zero_ok
  · split
    · exact zero_ok
    · exact ⟨h.top, fun s hs => by
        have hs : s ∈ without c.snaps (plc c.snaps n).toNat := hs
        unfold without at hs
        rcases List.mem_append.1 hs with q | q
        · exact h.snaps s (List.mem_of_mem_take q)
        · exact h.snaps s (List.mem_of_mem_drop q)⟩
theorem topAt_ok {c : Ct} (h : Ok c) (k : Nat) : Pok (topAt c.snaps k) := by
  unfold topAt
  cases e : c.snaps[k]? with
  | none => exact zp_ok
  | some s => exact h.snaps s (List.mem_of_getElem? e)
theorem revert_okT {c : Ct} (h : Ok c) (n : ByteArray) : Ok (revert c n).1 := by
  unfold revert
  split
  · exact zero_ok
  · split
    · exact zero_ok
    · exact ⟨topAt_ok h _, h.snaps⟩
theorem find_okT {c : Ct} (h : Ok c) (n : ByteArray) : Pok (find c n).1 := by
  unfold find
  split
  · exact zp_ok
  · exact topAt_ok h _
theorem snap_fewT (c : Ct) (n : ByteArray) : (snap c n).1.snaps.length ≤ c.snaps.length + 1 := by
  unfold snap
  split
  · exact Nat.zero_le _
  · split
    · exact Nat.zero_le _
    · split
      · exact Nat.zero_le _
      · split
        · exact Nat.zero_le _
        · show (added c n).length ≤ _
          rw [added_len]; exact Nat.le_refl _
theorem drop_fewT (c : Ct) (n : ByteArray) : (drop c n).1.snaps.length ≤ c.snaps.length + 1 := by
  unfold drop
  split
  · exact Nat.zero_le _
  · split
    · exact Nat.zero_le _
    · show (without c.snaps _).length ≤ _
      unfold without
      rw [List.length_append, List.length_take, List.length_drop]; omega
theorem revert_fewT (c : Ct) (n : ByteArray) : (revert c n).1.snaps.length ≤ c.snaps.length + 1 := by
  unfold revert
  split
  · exact Nat.zero_le _
  · split
    · exact Nat.zero_le _
    · exact Nat.le_succ _
theorem own_neT {v : Value} {row : Option Nat} {a b c d : Nat} (h1 : ∀ g, v.ownBlock = some g → a ≤ g ∧ g < b) (h2 : ∀ g, row = some g → c ≤ g ∧ g < d) (h : b ≤ c ∨ d ≤ a) : v.ownBlock = none ∨ v.ownBlock ≠ row := by
  cases e : v.ownBlock with
  | none => exact .inl rfl
  | some g =>
    refine .inr fun q => ?_
    have := h1 g e
    have := h2 g q.symm
    omega
theorem ctold_pc (c : Ct) (hc : CT.Ok c) (x : Int) (v u : Value) (w : World) (hn1 : c.snaps.length ≤ 1000000) (hv : RdT 34 w v c.snaps.length (sncs c.snaps)) (hu : RdT 34 w u c.snaps.length (sncs c.snaps)) :
    Calls Try.prog 31 #[.agg (pc c.top ++ [v]).toArray, .int .i64 x, .agg (pc c.top ++ [u]).toArray, .int .i64 x] w fun e w' => e = .returned (.bool true) ∧ Below w.heap.size w w' := by
  have q := ctold_any c hc x v u w hv hu (by omega)
  have e : ∀ y, ctc c y = pc c.top ++ [y] := fun _ => rfl
  rw [e, e] at q
  exact q
theorem cturn_pc (c : Ct) (hc : CT.Ok c) (B : Nat) (v : Value) (w : World) (hn1 : c.snaps.length ≤ 1000000) (ho : w.ownsRow B 60 34 v c.snaps.length (sncs c.snaps)) :
    Calls Try.prog 32 #[.agg (pc c.top ++ [v]).toArray] w fun e w' => e = .returned (.tuple #[]) ∧ w.grownBy w' v.ownBlock := by
  have q := cturn_any c hc B v w ho hn1
  have e : ∀ y, ctc c y = pc c.top ++ [y] := fun _ => rfl
  rw [e] at q
  exact q
end Go.Proofs.Ytkagapgganoomaa
