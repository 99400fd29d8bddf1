/- What the laws of wrap share: a known key. Own work. -/
import Derived.Test.YtjemajenfkjelaaDoorWrapP
import Derived.Test.YtjemajenfkjelaaDoorFactsT
import Derived.Deep.DeepCutAuto
namespace Go.Proofs.YtjemajenfkjelaaDoor
open Go.ChangeShapes Go.WideShapes Go.ChangeAt Go.RowKit
open SM AM WM
theorem eqTypeKW : Tryd.prog.eqGuardType Tryd.prog.depth 23 = false := by kernel_rfl
theorem eqTypeSW : Tryd.prog.eqGuardType Tryd.prog.depth 24 = false := by kernel_rfl
theorem size1W (w : World) : (sizeOf 5).run Tryd.prog w = .ok 1 w := by kernel_rfl
theorem run_eql_keyW {x y : List Nat} (hx : Bytes 32 x) (hy : Bytes 32 y) (w : World) : (binOp .eql 23 (.agg (row8 x).toArray) (.agg (row8 y).toArray)).run Tryd.prog w = .ok (.bool (decide (x = y))) w :=
  run_eql_row 23 5 32 Tryd.underlying23 Tryd.underlying5 size1W x y hx hy w
theorem run_neq_keyW {x y : List Nat} (hx : Bytes 32 x) (hy : Bytes 32 y) (w : World) : (binOp .neq 23 (.agg (row8 x).toArray) (.agg (row8 y).toArray)).run Tryd.prog w = .ok (.bool (!decide (x = y))) w := by
  have h := run_eql_keyW hx hy w
  simp only [binOp, Sem.run_bind, Sem.run_pure] at h ⊢
  cases q : (Op.equal 23 (.agg (row8 x).toArray) (.agg (row8 y).toArray)).run Tryd.prog w with
  | ok b w' =>
    rw [q] at h
    simp only [Result.andThen_ok, Result.ok.injEq, Value.bool.injEq] at h ⊢
    exact ⟨by rw [h.1], h.2⟩
  | _ => rw [q] at h; simp [Result.andThen] at h
theorem ex_build {o : Oper} {a : Act} {w : World} {t : TypeId} {parts : Array (Nat × Operand)} {cells : Array Value} (ho : o.op = .build t parts) (h : Tryd.prog.built t (parts.map fun (i, x) => (i, a.eval x)).toList = some cells) : (execOp a.eval o).run Tryd.prog w = .ok (.value (.agg cells)) w := by
  unfold execOp
  rw [ho]
  simp only [Sem.run_bind, run_build w t _ _ h, Result.andThen_ok, Sem.run_pure]
/-- Two variables made together, the first one of them stored into. -/
theorem two_a {w w' : World} {o o' : Obj} (g : ((w.alloc o).alloc o').grownBy w' (some w.heap.size)) : Below w.heap.size w w' :=
  (((Below.refl _ w).alloc (Nat.le_refl _) o).alloc (by simp) o').grown g (by simp; omega) (fun k hk => by have e : w.heap.size = k := Option.some.inj hk; omega)
theorem two_blk {w w' : World} {o : Obj} {t : TypeId} {D : List Value} (g : ((w.alloc o).alloc (.cells D.toArray t)).grownBy w' (some w.heap.size)) : Blk w' (w.heap.size + 1) t D :=
  (Blk.new (w.alloc o) t D (w.heap.size + 1) (by simp)).grown g (fun q => by have e : w.heap.size + 1 = w.heap.size := Option.some.inj q; omega)
namespace WM
def wkeyOf (n : Nat) : List Nat := [n] ++ List.replicate 31 0
theorem wkeyOf_bytes (n : Nat) (h : n < 256) : Bytes 32 (wkeyOf n) := ⟨rfl, small_bytes (by unfold wkeyOf; simp; omega)⟩
end WM
set_option maxRecDepth 100000 in
set_option maxHeartbeats 4000000 in
theorem wawake_any (w : World) (ht : TabX w) (hp : TabP w) : Calls Tryd.prog 12 #[] w fun e w' => e = .returned (.bool true) ∧ Below w.heap.size w w' := by
  obtain ⟨A, hA⟩ : ∃ A, A = wkeyOf 1 := ⟨_, rfl⟩
  have bA : Bytes 32 A := by rw [hA]; exact wkeyOf_bytes 1 (by omega)
  have HBA := Lib.hid (show Tryd.prog.built 23 [(0, .int .u8 1)] = some (row8 A).toArray by rw [hA]; kernel_rfl)
  obtain ⟨B, hB0⟩ : ∃ B, B = wkeyOf 2 := ⟨_, rfl⟩
  have bB : Bytes 32 B := by rw [hB0]; exact wkeyOf_bytes 2 (by omega)
  have HBB := Lib.hid (show Tryd.prog.built 23 [(0, .int .u8 2)] = some (row8 B).toArray by rw [hB0]; kernel_rfl)
  obtain ⟨Z, hZ⟩ : ∃ Z, Z = wseal A B := ⟨_, rfl⟩
  have bZ : Bytes 32 Z := by rw [hZ]; exact wseal_bytes A bB
  obtain ⟨V, hV⟩ : ∃ V, V = wcheck A Z := ⟨_, rfl⟩
  have bV : Bytes 32 V := by rw [hV]; exact wcheck_bytes A Z
  have hne : Z ≠ B := by rw [hZ]; exact wseal_apart A B
  have ho : wopen A Z V = B := by unfold wopen; rw [if_pos hV.symm, hZ]; exact wseal_back A bB
  have hr : werr A Z V = 0 := by unfold werr; rw [if_pos hV.symm]
  have hzb := fun w => run_neq_keyW bZ bB w
  simp only [decide_eq_false hne, Bool.not_false] at hzb
  have hbb := fun w => run_eql_keyW bB bB w
  have hvv := fun w => run_eql_sum bV bV w
  simp only [decide_true] at hbb hvv
  obtain ⟨D0, hD0⟩ : ∃ D0, D0 = row8 (List.replicate 32 0) := ⟨_, rfl⟩
  have hz : ∀ w, (zeroValue 23).run Tryd.prog w = .ok (.agg D0.toArray) w := by rw [hD0]; exact zeroKeyW
  have hz2 : ∀ w, (zeroValue 24).run Tryd.prog w = .ok (.agg D0.toArray) w := by rw [hD0]; exact zeroSumW
  have hd0 : D0.length = 32 := by rw [hD0, row8_len, List.length_replicate]
  have A32 := Lib.hid (show (row8 A).length = 32 by rw [row8_len]; exact bA.1)
  have B32 := Lib.hid (show (row8 B).length = 32 by rw [row8_len]; exact bB.1)
  have Z32 := Lib.hid (show (row8 Z).length = 32 by rw [row8_len]; exact bZ.1)
  have V32 := Lib.hid (show (row8 V).length = 32 by rw [row8_len]; exact bV.1)
  have HS := Lib.hid (pseal_any A B bA bB w ht hp)
  rw [← hZ, ← hV] at HS
  have HO := Lib.hid (fun W (hW : Below w.heap.size w W) => popen_any A Z V bA bZ bV W (ht.below hW) (hp.below hW))
  rw [ho, hr] at HO
  have HC := Lib.hid (fun W (hW : Below w.heap.size w W) => pcheck_any A Z bA bZ W (hp.below hW))
  rw [← hV] at HC
  have W0 := Lib.hid (Below.refl w.heap.size w)
  clear hA bA hB0 bB hZ bZ hV bV hne ho hr hD0 ht hp
  go_enter Tryd.func12, Tryd.ntmps12
  go_upto_region 3 with (first
    | (refine wpList_buildTo rfl 23 _ rfl (some 6) rfl (row8 A).toArray (Eq.trans (b := Tryd.prog.built 23 [(0, .int .u8 1)]) (by kernel_rfl) HBA.out) ?_)
    | (refine wpList_buildTo rfl 23 _ rfl (some 7) rfl (row8 B).toArray (Eq.trans (b := Tryd.prog.built 23 [(0, .int .u8 2)]) (by kernel_rfl) HBB.out) ?_)
    | (refine wpList_buildTo rfl 23 _ rfl (some 12) rfl (row8 A).toArray (Eq.trans (b := Tryd.prog.built 23 [(0, .int .u8 1)]) (by kernel_rfl) HBA.out) ?_)
    | (go_at_call 8; (with_reducible refine HS.out.mono ?_); rintro e w1 ⟨rfl, b⟩; have W1 := Lib.hid (W0.out.on b);   clear b)
    | (refine wpList_store_blk rfl 23 (.tmp 1) (.tmp 9) rfl w1.heap.size 0 (row8 Z) rfl rfl 23 D0 ((Blk.new w1 23 D0 _ rfl).alloc (.cells D0.toArray 24)) (by rw [Z32.out, hd0]; exact Nat.le_refl _) (by rw [Z32.out]; exact infoKeyL) (row8_one _) ?_; intro w2 b g; rw [splice_all _ _ (by rw [Z32.out, hd0])] at b; have P2 := Lib.hid (two_a g); have Y2 := Lib.hid (two_blk g); have Z2 := Lib.hid b; clear b g)
    | (refine wpList_store_blk rfl 24 (.tmp 2) (.tmp 10) rfl (w1.heap.size + 1) 0 (row8 V) rfl rfl 24 D0 Y2.out (by rw [V32.out, hd0]; exact Nat.le_refl _) (by rw [V32.out]; exact infoS) (row8_one _) ?_; intro w3 b g; rw [splice_all _ _ (by rw [V32.out, hd0])] at b; have hbw : Below w1.heap.size w1 w3 := P2.out.grown g P2.out.size (fun k hk => by have e : w1.heap.size + 1 = k := Option.some.inj hk; omega); have Z3 := Lib.hid (Z2.out.grown g (fun q => by have e : w1.heap.size = w1.heap.size + 1 := Option.some.inj q; omega)); have V3 := Lib.hid b; have W3 := Lib.hid (W1.out.on hbw);  have HO3 := Lib.hid (HO.out w3 W3.out); clear b g hbw)
    | (refine wpList_load_mid rfl 23 (.tmp 1) rfl w1.heap.size 0 rfl (row8 Z) _ Z3.out.range Tryd.underlying23 rfl (by rw [Z32.out]; exact infoKeyL) ?_)
    | (refine wpList_load_mid rfl 24 (.tmp 2) rfl (w1.heap.size + 1) 0 rfl (row8 V) _ V3.out.range Tryd.underlying24 rfl (by rw [V32.out]; exact infoS) ?_)
    | (go_at_call 13; (with_reducible refine HO3.out.mono ?_); rintro e w4 ⟨rfl, b⟩; have W4 := Lib.hid (W3.out.on b); have Z4 := Lib.hid (Z3.out.below b Z3.out.lt); have V4 := Lib.hid (V3.out.below b V3.out.lt);  clear b)
    | (refine wpList_store_blk rfl 23 (.tmp 3) (.tmp 16) rfl w4.heap.size 0 (row8 B) rfl rfl 23 D0 (Blk.new w4 23 D0 _ rfl) (by rw [B32.out, hd0]; exact Nat.le_refl _) (by rw [B32.out]; exact infoKeyL) (row8_one _) ?_; intro w5 b g; rw [splice_all _ _ (by rw [B32.out, hd0])] at b; have hbw : Below w4.heap.size w4 w5 := alloc_turn (Below.refl _ _) g; have M5 := Lib.hid b; have W5 := Lib.hid (W4.out.on hbw); have Z5 := Lib.hid (Z4.out.below hbw Z4.out.lt); have V5 := Lib.hid (V4.out.below hbw V4.out.lt);  clear b g hbw))
  clear Z3 V3 Z4 V4 P2 Y2 Z2 HO HS HO3 W0 W1 W3 W4
  refine wp_region_g (by kernel_rfl) 22 (by decide) (by kernel_rfl) (by kernel_rfl) (by kernel_rfl) (w5.heap.size) (Nat.le_refl _) [.val (.agg (row8 Z).toArray), .val (.agg (row8 B).toArray), .val (.bool true), .val (.bool true), .val (.agg (row8 B).toArray), .val (.agg (row8 B).toArray), .val (.bool true), .val (.bool true), .val (.bool true), .val (.int .i64 0), .val (.bool true), .val (.bool true), .val (.bool true), .val (.agg (row8 V).toArray), .val (.agg (row8 A).toArray), .val (.agg (row8 Z).toArray), .val (.agg (row8 V).toArray), .val (.bool true), .val (.bool true), .val (.bool true), .val (.bool true), .val (.bool true)] (fun _ => 22) ?_ ?_
  · refine ⟨?_, ?_, ?_, ?_, ?_, ?_, ?_, ?_, ?_, ?_, ?_, ?_, ?_, ?_, ?_, ?_, ?_, ?_, ?_, ?_, ?_, ?_, trivial⟩
    · intro a w' hF hB hd
      have e1 : a.eval (.tmp 1) = .pointer (some ⟨w1.heap.size, 0, none⟩) := hF 1 (by decide +kernel)
      exact doesG_wp rfl rfl fun K' hK' => wp_load_mid 23 (.tmp 1) rfl w1.heap.size 0 e1 (row8 Z) _ (Z5.out.below hB Z5.out.lt).range Tryd.underlying23 rfl (by rw [Z32.out]; exact infoKeyL) (hK' _ _ rfl (Below.refl _ _))
    · intro a w' hF hB hd
      exact doesG_val rfl (ex_build rfl (Eq.trans (b := Tryd.prog.built 23 [(0, .int .u8 2)]) (by kernel_rfl) HBB.out)) rfl rfl
    · intro a w' hF hB hd
      have e18 : a.eval (.tmp 18) = .agg (row8 Z).toArray := hd 0 (by decide +kernel) (.inr (by decide))
      have e19 : a.eval (.tmp 19) = .agg (row8 B).toArray := hd 1 (by decide +kernel) (.inr (by decide))
      exact doesG_val rfl (ex_binOp rfl e18 e19 (run_eqGuard_agg (P := Tryd.prog) (w := w') .neq 23 _ _ _ _ eqTypeKW) (hzb w')) rfl rfl
    · intro a w' hF hB hd
      have e20 : a.eval (.tmp 20) = .bool true := hd 2 (by decide +kernel) (.inr (by decide))
      exact doesG_val rfl (ex_move rfl e20) rfl rfl
    · intro a w' hF hB hd
      have e21 : a.eval (.tmp 21) = .bool true := hd 3 (by decide +kernel) (.inr (by decide))
      have e3 : a.eval (.tmp 3) = .pointer (some ⟨w4.heap.size, 0, none⟩) := hF 3 (by decide +kernel)
      exact doesG_wp (wanted_of rfl (yielded_of rfl e21)) rfl fun K' hK' => wp_load_mid 23 (.tmp 3) rfl w4.heap.size 0 e3 (row8 B) _ (M5.out.below hB M5.out.lt).range Tryd.underlying23 rfl (by rw [B32.out]; exact infoKeyL) (hK' _ _ rfl (Below.refl _ _))
    · intro a w' hF hB hd
      have e21 : a.eval (.tmp 21) = .bool true := hd 3 (by decide +kernel) (.inr (by decide))
      exact doesG_val (wanted_of rfl (yielded_of rfl e21)) (ex_build rfl (Eq.trans (b := Tryd.prog.built 23 [(0, .int .u8 2)]) (by kernel_rfl) HBB.out)) rfl rfl
    · intro a w' hF hB hd
      have e21 : a.eval (.tmp 21) = .bool true := hd 3 (by decide +kernel) (.inr (by decide))
      have e22 : a.eval (.tmp 22) = .agg (row8 B).toArray := hd 4 (by decide +kernel) (.inr (by decide))
      have e23 : a.eval (.tmp 23) = .agg (row8 B).toArray := hd 5 (by decide +kernel) (.inr (by decide))
      exact doesG_val (wanted_of rfl (yielded_of rfl e21)) (ex_binOp rfl e22 e23 (run_eqGuard_agg (P := Tryd.prog) (w := w') .eql 23 _ _ _ _ eqTypeKW) (hbb w')) rfl rfl
    · intro a w' hF hB hd
      have e21 : a.eval (.tmp 21) = .bool true := hd 3 (by decide +kernel) (.inr (by decide))
      have e24 : a.eval (.tmp 24) = .bool true := hd 6 (by decide +kernel) (.inr (by decide))
      exact doesG_val rfl (ex_pick rfl e21 (by simp [e24])) rfl rfl
    · intro a w' hF hB hd
      have e25 : a.eval (.tmp 25) = .bool true := hd 7 (by decide +kernel) (.inr (by decide))
      exact doesG_val rfl (ex_move rfl e25) rfl rfl
    · intro a w' hF hB hd
      have e26 : a.eval (.tmp 26) = .bool true := hd 8 (by decide +kernel) (.inr (by decide))
      have e4 : a.eval (.tmp 4) = .int .i64 0 := hF 4 (by decide +kernel)
      exact doesG_val (wanted_of rfl (yielded_of rfl e26)) (ex_move rfl e4) rfl rfl
    · intro a w' hF hB hd
      have e26 : a.eval (.tmp 26) = .bool true := hd 8 (by decide +kernel) (.inr (by decide))
      have e27 : a.eval (.tmp 27) = .int .i64 0 := hd 9 (by decide +kernel) (.inr (by decide))
      exact doesG_val (wanted_of rfl (yielded_of rfl e26)) (ex_binOp rfl e27 rfl (by go_simp) (by go_simp)) rfl rfl
    · intro a w' hF hB hd
      have e26 : a.eval (.tmp 26) = .bool true := hd 8 (by decide +kernel) (.inr (by decide))
      have e28 : a.eval (.tmp 28) = .bool true := hd 10 (by decide +kernel) (.inr (by decide))
      exact doesG_val rfl (ex_pick rfl e26 (by simp [e28])) rfl rfl
    · intro a w' hF hB hd
      have e29 : a.eval (.tmp 29) = .bool true := hd 11 (by decide +kernel) (.inr (by decide))
      exact doesG_val rfl (ex_move rfl e29) rfl rfl
    · intro a w' hF hB hd
      have e30 : a.eval (.tmp 30) = .bool true := hd 12 (by decide +kernel) (.inr (by decide))
      have e2 : a.eval (.tmp 2) = .pointer (some ⟨w1.heap.size + 1, 0, none⟩) := hF 2 (by decide +kernel)
      exact doesG_wp (wanted_of rfl (yielded_of rfl e30)) rfl fun K' hK' => wp_load_mid 24 (.tmp 2) rfl (w1.heap.size + 1) 0 e2 (row8 V) _ (V5.out.below hB V5.out.lt).range Tryd.underlying24 rfl (by rw [V32.out]; exact infoS) (hK' _ _ rfl (Below.refl _ _))
    · intro a w' hF hB hd
      have e30 : a.eval (.tmp 30) = .bool true := hd 12 (by decide +kernel) (.inr (by decide))
      exact doesG_val (wanted_of rfl (yielded_of rfl e30)) (ex_build rfl (Eq.trans (b := Tryd.prog.built 23 [(0, .int .u8 1)]) (by kernel_rfl) HBA.out)) rfl rfl
    · intro a w' hF hB hd
      have e30 : a.eval (.tmp 30) = .bool true := hd 12 (by decide +kernel) (.inr (by decide))
      have e1 : a.eval (.tmp 1) = .pointer (some ⟨w1.heap.size, 0, none⟩) := hF 1 (by decide +kernel)
      exact doesG_wp (wanted_of rfl (yielded_of rfl e30)) rfl fun K' hK' => wp_load_mid 23 (.tmp 1) rfl w1.heap.size 0 e1 (row8 Z) _ (Z5.out.below hB Z5.out.lt).range Tryd.underlying23 rfl (by rw [Z32.out]; exact infoKeyL) (hK' _ _ rfl (Below.refl _ _))
    · intro a w' hF hB hd
      have e30 : a.eval (.tmp 30) = .bool true := hd 12 (by decide +kernel) (.inr (by decide))
      have e32 : a.eval (.tmp 32) = .agg (row8 A).toArray := hd 14 (by decide +kernel) (.inr (by decide))
      have e33 : a.eval (.tmp 33) = .agg (row8 Z).toArray := hd 15 (by decide +kernel) (.inr (by decide))
      exact doesG_call (wanted_of rfl (yielded_of rfl e30)) (ex_call (vs := #[.agg (row8 A).toArray, .agg (row8 Z).toArray]) rfl (by simp only [List.map_toArray, List.map_cons, List.map_nil, e32, e33]) (by go_simp)) rfl ((HC.out w' (W5.out.on hB)).mono fun e w2 hh => ⟨_, hh.1, rfl, hh.2⟩)
    · intro a w' hF hB hd
      have e30 : a.eval (.tmp 30) = .bool true := hd 12 (by decide +kernel) (.inr (by decide))
      have e31 : a.eval (.tmp 31) = .agg (row8 V).toArray := hd 13 (by decide +kernel) (.inr (by decide))
      have e34 : a.eval (.tmp 34) = .agg (row8 V).toArray := hd 16 (by decide +kernel) (.inr (by decide))
      exact doesG_val (wanted_of rfl (yielded_of rfl e30)) (ex_binOp rfl e31 e34 (run_eqGuard_agg (P := Tryd.prog) (w := w') .eql 24 _ _ _ _ eqTypeSW) (hvv w')) rfl rfl
    · intro a w' hF hB hd
      have e30 : a.eval (.tmp 30) = .bool true := hd 12 (by decide +kernel) (.inr (by decide))
      have e35 : a.eval (.tmp 35) = .bool true := hd 17 (by decide +kernel) (.inr (by decide))
      exact doesG_val rfl (ex_pick rfl e30 (by simp [e35])) rfl rfl
    · intro a w' hF hB hd
      have e36 : a.eval (.tmp 36) = .bool true := hd 18 (by decide +kernel) (.inr (by decide))
      exact doesG_val rfl (ex_move rfl e36) rfl rfl
    · intro a w' hF hB hd
      have e37 : a.eval (.tmp 37) = .bool true := hd 19 (by decide +kernel) (.inr (by decide))
      exact doesG_val rfl (ex_pick rfl e37 (rfl)) rfl rfl
    · intro a w' hF hB hd
      have e38 : a.eval (.tmp 38) = .bool true := hd 20 (by decide +kernel) (.inr (by decide))
      exact doesG_val rfl (ex_assign rfl e38) rfl rfl
  · intro vs wz hb hv hap
    have e2 : vs 21 = .bool true := hv 21 (by decide) (by decide)
    simp only [List.take_succ_cons, List.take_zero, List.drop_succ_cons, List.drop_zero, putOps, Act.put, List.setIfInBounds_toArray, List.set_cons_zero, List.set_cons_succ, e2]
    have HB := Lib.hid (W5.out.on hb)
    clear hv hap e2 hb
    go_wp2_with fail
    go_ret
    exact ⟨rfl, HB.out⟩
end Go.Proofs.YtjemajenfkjelaaDoor
