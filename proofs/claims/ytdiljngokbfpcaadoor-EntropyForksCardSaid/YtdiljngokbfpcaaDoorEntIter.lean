/- The function that yields a source's blocks: contract. Own work. -/
import Derived.Test.YtdiljngokbfpcaaDoorEntSrc
import Derived.Test.YtdiljngokbfpcaaDoorRangeFn
import Derived.Test.YtdiljngokbfpcaaDoorOct
import Derived.RangeFuncBound
import Derived.RangeFuncLeaves
import Derived.Shelf.Abstract
import Derived.Shelf.RegionOpen
import Derived.OwnWalkIn
import Derived.TacticsInMore
import Derived.LoopNIn
import Derived.LoopIn
namespace Go.Proofs.YtdiljngokbfpcaaDoor
open Go.ChangeShapes Go.WideShapes Go.ChangeAt Go.RowKit
open SM
attribute [local go_sem] Oper.semAt_some
/-- A block of the stream, as it is handed over. -/
abbrev B32 := { l : List Nat // Bytes 32 l }
abbrev encB (x : B32) : Array Value := #[.agg (row8 x.1).toArray]
/-- What the iterator reads: the boxes of its two captured variables, the source, its Hash, the program's table. -/
structure Env (w : World) (bi bs x g : Nat) (S : List Nat) (t i0 : Nat) : Prop where
  box_i : Blk w bi 3 [.int .i64 (i0 : Int)]
  box_s : Blk w bs 25 [.pointer (some ⟨x, 0, none⟩)]
  src : Sc w x g S t
  tab : TabP w
theorem pblocks_any (w : World) (x i : Nat) : Calls Tryd.prog 15 #[.pointer (some ⟨x, 0, none⟩), .int .i64 (i : Int)] w fun e w' =>
    ∃ bs bi, bs = w.heap.size ∧ bi = w.heap.size + 1 ∧ e = .returned (.func (.func 20) #[] #[.pointer (some ⟨bi, 0, none⟩), .pointer (some ⟨bs, 0, none⟩)]) ∧ Blk w' bs 25 [.pointer (some ⟨x, 0, none⟩)] ∧ Blk w' bi 3 [.int .i64 (i : Int)] ∧ Below w.heap.size w w' ∧ w'.heap.size = w.heap.size + 2 := by
  have hmf := fun (fn : Fn) (first cap : Array Value) (w : World) => run_makeFunc fn first cap w
  go_enter Tryd.func15, Tryd.ntmps15
  go_wp2_with fail
  go_ret
  exact ⟨_, _, rfl, rfl, by simp, (Blk.new w _ [.pointer (some ⟨x, 0, none⟩)] _ rfl).alloc _, Blk.new _ _ [.int .i64 (i : Int)] _ (by simp), ((Below.refl _ w).alloc (Nat.le_refl _) _).alloc (by simp) _, by simp⟩
set_option maxRecDepth 100000 in
set_option maxHeartbeats 2000000 in
theorem piter_any (N : Nat) (bi bs x g : Nat) (S : List Nat) (t i0 : Nat) (hf : S.length ≤ 140737488355328) (hi : i0 + N < 4611686018427387904) (l : Nat) (J Jx : List B32 → World → Prop) (W : World)
    (hJI : ∀ pre A, J pre A → Env A bi bs x g S t i0 ∧ pre.length < N) (hJg : ∀ pre A A', J pre A → Below A.heap.size A A' → J pre A')
    (hY : ∀ pre x A, J pre A → YieldAt Fence.wide 0 Tryd.prog l (encB x) A fun e A' => (e = .returned (.bool true) ∧ J (pre ++ [x]) A') ∨ (e = .returned (.bool false) ∧ Jx (pre ++ [x]) A')) (h0 : J [] W) :
    CallsIn Fence.wide 0 Tryd.prog 20 #[.func (.yield l) #[] #[], .pointer (some ⟨bi, 0, none⟩), .pointer (some ⟨bs, 0, none⟩)] W fun e W' => (∃ v, e = .returned v) ∧ ∃ pre, pre.map (·.1) = EM.parts S i0 pre.length ∧ Jx pre W' := by
  have HJI := Lib.hid hJI
  have HJg := Lib.hid hJg
  have HY := Lib.hid hY
  have H0 := Lib.hid h0
  clear hJI hJg hY h0
  have ci := (HJI.out _ _ H0.out).1.box_i.cell 0 _ rfl
  have hi0 : i0 < 4611686018427387904 := by omega
  have hfw : ∀ f, Fence.wide.fn f = True := fun _ => rfl
  have hdw : Fence.wide.depth = none := rfl
  refine callsIn_of_wp Tryd.func20 rfl trivial ?_ rfl
  simp only [Tryd.ntmps20, List.size_toArray, List.length_cons, List.length_nil, Nat.reduceAdd, Nat.reduceSub, Array.replicate_succ, Array.replicate_zero, List.push_toArray, List.append_toArray, List.nil_append, List.cons_append]
  gi_wp2
  gi_loopw [4] (fun p wr => ∃ pre : List B32, p = .int .u64 ((i0 + pre.length : Nat) : Int) ∧ pre.map (·.1) = EM.parts S i0 pre.length ∧ J pre wr) (fun p _ => N + i0 - (intOf p).toNat)
  case atStart => exact ⟨[], by go_num, rfl, H0.out⟩
  case round =>
    obtain ⟨pre, rfl, hp, hj⟩ := hrel
    obtain ⟨hE, hlen⟩ := HJI.out _ _ hj
    have cs := hE.box_s.cell 0 _ rfl
    have cg := hE.src.blk.cell 0 _ rfl
    have hgk : g < wr.heap.size := hE.src.inn.lt
    have hPk : ∀ f, wr.heap.size ≤ f → f ≠ 0 := fun f hf => by have := hE.tab.lt; omega
    obtain ⟨m, hm⟩ : ∃ m, m = i0 + pre.length := ⟨_, rfl⟩
    have hm1 : m < 4611686018427387904 := by omega
    have HFK := Lib.hid (fork_ex g (S ++ EM.use) wr hE.src.inn)
    have HPT := Lib.hid (fun W => put64_any m (by omega) W)
    have HE := Lib.hid hE
    have HP := Lib.hid hp
    have HJ := Lib.hid hj
    have HLEN := Lib.hid hlen
    have HM := Lib.hid hm
    have HGK := Lib.hid hPk
    have HX := Lib.hid (show (⟨EM.part S m, EM.part_bytes S m⟩ : B32).1 = EM.part S m from rfl)
    obtain ⟨X, hX⟩ : ∃ X : B32, X = ⟨EM.part S m, EM.part_bytes S m⟩ := ⟨_, rfl⟩
    have hX1 : X.1 = EM.part S m := by rw [hX]
    obtain ⟨V, hV⟩ : ∃ V, V = X.1 := ⟨_, rfl⟩
    have HXX := Lib.hid (show V = sha (S ++ EM.use ++ be m 8) by rw [hV, hX1]; rfl)
    have HX1 := Lib.hid hX1
    have HVV := Lib.hid hV
    clear hE hp hj hlen hPk hX hX1 hV
    rw [← hm]
    clear hm
    have HML := Lib.hid (show (be m 8).length = 8 from be_len m 8)
    gi_wp2_with (first
      | (gi_at_call 18; refine (callsIn_wide.2 HFK.out).mono ?_; rintro e w2 ⟨f, hf2, rfl, h2, b2⟩; have HF2 := Lib.hid hf2; have H2 := Lib.hid h2; have B2 := Lib.hid b2; clear hf2 h2 b2)
      | (gi_at_call 21; refine (callsIn_wide.2 (HPT.out _)).mono ?_; rintro e w3 ⟨v3, rfl, o3, b3⟩; have O3 := Lib.hid o3; have B3 := Lib.hid (B2.out.on b3); have H3 := Lib.hid (H2.out.below b3 H2.out.lt); clear o3 b3)
      | (gi_at_call 14; refine (callsIn_wide.2 (write_any f (S ++ EM.use) (be m 8) v3 w3 O3.out.rd (fun _ q => by have h1 := (O3.out.from _ q).1; have h2 := H2.out.lt; omega) H3.out (HE.out.tab.below B3.out) (HGK.out f (by have := HF2.out; omega)) (by rw [HML.out, List.length_append]; have : EM.use.length = 4 := rfl; omega))).mono ?_; rintro e w4 ⟨rfl, h4, g4⟩; have H4 := Lib.hid h4; have B4 := Lib.hid (B3.out.grown g4 B3.out.size (fun k hk => by have : f = k := Option.some.inj hk; have := HF2.out; omega)); clear h4 g4)
      | (gi_at_call 17; refine (callsIn_wide.2 (sum_of H4.out (HE.out.tab.below B4.out) (by rw [List.length_append, List.length_append, HML.out]; have : EM.use.length = 4 := rfl; omega) HXX.out)).mono ?_; rintro e w5 ⟨rfl, b5⟩; have B5 := Lib.hid (B4.out.on b5); clear b5; obtain ⟨fn, tmps, assign, body, hy, hR⟩ := HY.out pre X w5 (HJg.out _ _ _ HJ.out B5.out); dsimp only [encB] at hy; rw [← HVV.out] at hy))
    have HXF := Lib.hid (show (pre ++ [X]).map (·.1) = EM.parts S i0 (pre ++ [X]).length by
      rw [List.map_append, List.length_append, HP.out]
      show _ ++ [X.1] = EM.parts S i0 (pre.length + 1)
      rw [EM.parts_succ, ← HM.out, HX1.out])
    refine hR.mono ?_
    rintro e w6 (⟨rfl, hj⟩ | ⟨rfl, hj⟩)
    · have HJ6 := Lib.hid hj
      clear hj hy hR
      gi_wp2
      go_roundw
      case rel =>
        refine ⟨pre ++ [X], ?_, HXF.out, HJ6.out⟩
        rw [List.length_append, show i0 + (pre.length + [X].length) = m + 1 by have := HM.out; simp; omega]
        go_num
      case measure =>
        have := HM.out
        have := HLEN.out
        simp [intOf]
        omega
    · have HJ6 := Lib.hid hj
      clear hj hy hR
      gi_wp2
      refine bodyPost_ret (results_none rfl _ _ _) rfl ?_
      exact ⟨⟨_, rfl⟩, pre ++ [X], HXF.out, HJ6.out⟩
end Go.Proofs.YtdiljngokbfpcaaDoor
