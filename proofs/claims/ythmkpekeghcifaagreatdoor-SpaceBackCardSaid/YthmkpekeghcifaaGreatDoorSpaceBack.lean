/- SpaceBack: what is laid is read as it was, whatever is laid in other clusters (data, a page, a node, each by its own ref); and the law's closed case holds. No condition but that the listed tables hold what they hold when the call begins. -/
import Derived.Test.YthmkpekeghcifaaGreatDoorRows
import Derived.Test.YthmkpekeghcifaaGreatDoorMg14
import Derived.Test.YthmkpekeghcifaaGreatDoorMg11
import Derived.Test.YthmkpekeghcifaaGreatDoorTie
import Derived.Test.YthmkpekeghcifaaGreatDoorCards
import Derived.SevenTiedAt
import Derived.Test.YthmkpekeghcifaaGreatDoorMg0
import Derived.WalkKit
import Derived.ProofKit
import Derived.OpenShut
import Derived.SizedLaws
import Derived.Carry
import Derived.Deep.DeepHandedRow
import Derived.Deep.DeepWitnessRowRef
namespace Go.Proofs.YthmkpekeghcifaaGreatDoor.spaceBack
open Go.ChangeShapes Go.WideShapes Go.ChangeAt Go.RowKit
open RT XM AM SM
def xNd : List Pg := [ND.zp, ND.zp, ⟨7, List.replicate 32 0⟩, ND.zp, ND.zp, ND.zp, ND.zp, ND.zp]
theorem zp7_ok : Pok ⟨7, List.replicate 32 0⟩ := ⟨by decide, bytes_zero 32⟩
theorem xNd_ok : ND.Nok xNd := ⟨rfl, fun p hp => by
  unfold xNd at hp
  simp only [List.mem_cons, List.mem_nil_iff, or_false] at hp
  rcases hp with rfl | rfl | rfl | rfl | rfl | rfl | rfl | rfl
  · exact ND.zp_ok
  · exact ND.zp_ok
  · exact zp7_ok
  · exact ND.zp_ok
  · exact ND.zp_ok
  · exact ND.zp_ok
  · exact ND.zp_ok
  · exact ND.zp_ok⟩
theorem xNd_may : ND.may xNd = true := by decide +kernel
theorem built_r7 : Tryz.prog.built 49 [(0, .int .u32 7)] = some (pc ⟨7, List.replicate 32 0⟩).toArray := by kernel_rfl
theorem built_x7 : Tryz.prog.built 51 [(2, .agg (pc ⟨7, List.replicate 32 0⟩).toArray)] = some (pcs xNd).toArray := by kernel_rfl
theorem ex_min_at {o : Oper} {a : Act} {w : World} {x : Operand} {ts : Array TypeId} {L : Nat} (ho : o.op = .call { callee := .builtin .min, args := #[x, .const (.int .i64 512)], argTypes := ts }) (hx : a.eval x = .int .i64 (L : Int)) : (execOp a.eval o).run Tryz.prog w = .ok (.value (.int .i64 ((min L 512 : Nat) : Int))) w := by
  have q := ex_min (P := Tryz.prog) (w := w) (k := .i64) (u := (L : Int)) (v := 512) ho hx rfl
  rw [q]
  congr 3
  congr 1
  omega
theorem own : ownKnob Tryz.prog.godebug = none := by kernel_rfl
theorem cells23 : Tryz.prog.cellsOf 23 = 32 := by kernel_rfl
theorem cells67 : Tryz.prog.cellsOf 67 = 2 := by kernel_rfl
theorem cells5 : Tryz.prog.cellsOf 5 = 1 := by kernel_rfl
set_option linter.unusedVariables false in
set_option maxHeartbeats 16000000 in
set_option maxRecDepth 100000 in
theorem walk (w : World) (ht : TabX w ∧ TabU w ∧ TabP w) (l0 : List Nat) (h0 : Bytes 32 l0) (l1 : List Nat) (h1 : Bytes 2 l1) (v2 : Value) (l2 : List Nat) (h2 : Rd w v2 l2) :
    Calls Tryz.prog 5 #[.agg (row8 l0).toArray, .agg (row8 l1).toArray, v2] w fun e w' => e = .returned (.bool true) ∧ Below w.heap.size w w' := by
  obtain ⟨tx, tu, tp⟩ := ht
  have HAW := Lib.hid (fun W (hW : Below w.heap.size w W) => spawake_any W (tx.below hW) (tu.below hW) (tp.below hW))
  have HT := Lib.hid (PTabs.start tx tu tp)
  have HB := Lib.hid (fun W (hW : Below w.heap.size w W) => begun_any w.heap.size W hW.size)
  obtain ⟨n0, n1, rfl⟩ : ∃ a b, l1 = [a, b] := by
    match l1, h1.1 with
    | [a, b], _ => exact ⟨a, b, rfl⟩
  have hn0 : n0 < 256 := h1.2 0
  have hn1 : n1 < 256 := h1.2 1
  obtain ⟨k0, hk0⟩ : ∃ k, k = n0 % 20 := ⟨_, rfl⟩
  obtain ⟨k1, hk1⟩ : ∃ k, k = n1 % 20 := ⟨_, rfl⟩
  have hl0 : k0 < 20 := by omega
  have hl1 : k1 < 20 := by omega
  have Hk0 := Lib.hid (show (n0 : Int) % 20 = (k0 : Int) ∧ (n0 : Int).tmod 20 = (k0 : Int) by rw [Int.tmod_eq_emod_of_nonneg (by omega)]; omega)
  have Hk1 := Lib.hid (show (n1 : Int) % 20 = (k1 : Int) ∧ (n1 : Int).tmod 20 = (k1 : Int) by rw [Int.tmod_eq_emod_of_nonneg (by omega)]; omega)
  have HWk0 := Lib.hid (show IntKind.u32.wrap (k0 : Int) = (k0 : Int) by rw [IntKind.wrap_u32]; omega)
  have HWk1 := Lib.hid (show IntKind.u32.wrap (k1 : Int) = (k1 : Int) by rw [IntKind.wrap_u32]; omega)
  obtain ⟨p, hp⟩ : ∃ p, p = SP.fresh 8 1 l0 := ⟨_, rfl⟩
  have hpo : SP.Ok p := by rw [hp]; exact SP.fresh_ok (by decide) (by decide) l0
  have hper : p.per = 1 := by rw [hp]; rfl
  have hsize : SP.size p = 512 := by unfold SP.size; rw [hper]
  have KC32 := Lib.hid (show (row8 l0).length = 32 by rw [row8_len]; exact h0.1)
  have HNW := Lib.hid (fun W d (hW : Below w.heap.size w W) => (show Calls Tryz.prog 12 #[.pointer (some ⟨d, 0, none⟩), .agg #[.int .i64 8, .int .i64 1], .agg (row8 l0).toArray] W fun e w' => ∃ s, e = .returned (.pointer (some ⟨s, 0, none⟩)) ∧ Spa (fun k => W.heap.size ≤ k ∧ k < w'.heap.size) w' s d p ∧ Below W.heap.size W w' from by rw [hp]; exact spcnew_ok d 8 1 (by decide) (by decide) l0 h0 W (tx.below hW) (tp.below hW)))
  obtain ⟨KC, hKC⟩ : ∃ x, x = row8 l0 := ⟨_, rfl⟩
  rw [← hKC] at HNW KC32 ⊢
  -- the bytes
  obtain ⟨ao, cap, rfl, hcap⟩ := h2.shape
  obtain ⟨L, hL⟩ : ∃ L, L = l2.length := ⟨_, rfl⟩
  obtain ⟨m, hm⟩ : ∃ m, m = min L 512 := ⟨_, rfl⟩
  obtain ⟨b, hb⟩ : ∃ b, b = l2.take 512 := ⟨_, rfl⟩
  have hbl : b.length = m := by rw [hb, List.length_take, hm, hL]; omega
  have hbm : b = l2.take m := by
    rw [hb, hm, hL]
    by_cases c : l2.length ≤ 512
    · rw [Nat.min_eq_left c, List.take_of_length_le c, List.take_of_length_le (Nat.le_refl _)]
    · rw [Nat.min_eq_right (by omega)]
  have HRB := Lib.hid (show Rd w (.slice ao m cap) b by rw [hbm]; exact h2.take m (by omega))
  have hm5 : m ≤ 512 := by omega
  have hmL : m ≤ L := by omega
  have hfit := h2.fits
  rw [← hL] at hcap hfit
  have HBD := Lib.hid (show padTo b 512 = b ++ List.replicate (512 - m) 0 by unfold padTo; rw [hbl])
  obtain ⟨D, hD⟩ : ∃ D, D = padTo b 512 := ⟨_, rfl⟩
  have hDl : D.length = 512 := by rw [hD, padTo_len]; omega
  have hDb : ∀ k, gb D k < 256 := by rw [hD]; exact padTo_byte _ _ HRB.out.byte
  rw [← hD] at HBD
  -- the states
  have F0 := SP.Few.beg
  have R0 := SP.Roomy.beg hper
  obtain ⟨C, hC⟩ : ∃ C, C = SP.sealed p k0 D := ⟨_, rfl⟩
  have hCl : C.length = SP.size p := by rw [hC]; exact SP.sealed_len3 hpo k0 (by rw [hDl, hsize])
  have hCb : ∀ k, gb C k < 256 := by rw [hC]; exact SP.sealed_byte hpo k0 D
  have e1 := SP.putData_room hpo (R0 k0 (by omega)) (by omega) (show D.length = SP.size p by rw [hDl, hsize])
  rw [← hC] at e1
  have F1 := F0.lay p k0 hCb (by rw [hCl]; exact SP.size_le hpo)
  have R1 := R0.lay (show k0 ≤ 23 by omega) hCl
  have hraw1 := SP.raw_lay hpo (R0 k0 (by omega)) hCl (SP.leaf p (k0 + 1) C)
  obtain ⟨S0, hS0⟩ : ∃ x, x = SP.beg := ⟨_, rfl⟩
  rw [← hS0] at F0 R0 e1 F1 R1 hraw1 HB
  obtain ⟨S1, hS1⟩ : ∃ x, x = (SP.lay p S0 k0 C).1 := ⟨_, rfl⟩
  rw [← hS1] at e1 F1 R1 hraw1
  have hr1 : Pok ⟨k0 + 1, SP.leaf p (k0 + 1) C⟩ := ⟨by show k0 + 1 < 4294967296; omega, mac_bytes _ _⟩
  obtain ⟨r1, hrr1⟩ : ∃ r : Pg, r = ⟨k0 + 1, SP.leaf p (k0 + 1) C⟩ := ⟨_, rfl⟩
  rw [← hrr1] at e1 hraw1 hr1
  have H1 := Lib.hid (fun W s d A (h : Laid w.heap.size W s d p A S0) v (hv : Rd W v D) => (show Calls Tryz.prog 17 #[.pointer (some ⟨s, 0, none⟩), .int .u32 (k0 : Int), v] W fun e w' => e = .returned (.tuple #[.agg (pc r1).toArray, .int .i64 0]) ∧ Laid w.heap.size w' s d p A S1 ∧ Kept w.heap.size A W w' by have q := laid_putdata hpo h F0 (by decide) k0 (by omega) D v hv; rw [e1] at q; exact q))
  obtain ⟨PG, hPG⟩ : ∃ x, x = padTo b (SP.size p) := ⟨_, rfl⟩
  have hPD : PG = D := by rw [hPG, hsize, hD]
  have hPl : PG.length = SP.size p := by rw [hPD, hDl, hsize]
  have hPb : ∀ k, gb PG k < 256 := by rw [hPD]; exact hDb
  have hbs : b.length ≤ SP.size p := by rw [hbl, hsize]; exact hm5
  have RC33 := Lib.hid (pc_len hr1)
  have RC1 := Lib.hid (one_pg r1)
  obtain ⟨R7, hR7⟩ : ∃ x, x = pc ⟨7, List.replicate 32 0⟩ := ⟨_, rfl⟩
  have HB7 := Lib.hid built_r7
  have HB51 := Lib.hid built_x7
  rw [← hR7] at HB7 HB51
  have XC264 := Lib.hid (ND.pcs_len8 xNd_ok)
  have XC1 := Lib.hid (show (pcs xNd).toArray.all (·.oneCell') = true by rw [List.all_toArray, List.all_eq_true]; exact pcs_one' _)
  have HNQ := Lib.hid (fun W => (show (binOp .eql 51 (.agg (pcs xNd).toArray) (.agg (pcs xNd).toArray)).run Tryz.prog W = .ok (.bool true) W by rw [run_eql_node xNd_ok xNd_ok, (ndEq_iff xNd_ok xNd_ok).2 rfl]))
  obtain ⟨RZ, hRZ⟩ : ∃ x, x = pc ND.zp := ⟨_, rfl⟩
  have hz2 : ∀ w, (zeroValue 49).run Tryz.prog w = .ok (.agg RZ.toArray) w := by rw [hRZ]; exact zeroRfP
  have RZ33 := Lib.hid (show RZ.length = 33 by rw [hRZ]; exact pc_len ND.zp_ok)
  obtain ⟨ZN, hZN⟩ : ∃ x, x = pcs ND.zn := ⟨_, rfl⟩
  have hz1 : ∀ w, (zeroValue 51).run Tryz.prog w = .ok (.agg ZN.toArray) w := by rw [hZN]; exact zeroNdP
  have ZN264 := Lib.hid (show ZN.length = 264 by rw [hZN]; rfl)
  obtain ⟨w1, hw1⟩ : ∃ x, x = (w.alloc (.cells KC.toArray 23)).alloc (.cells (row8 [n0, n1]).toArray 67) := ⟨_, rfl⟩
  have W1 := Lib.hid (show Below w.heap.size w w1 by rw [hw1]; exact ((Below.refl w.heap.size w).alloc (Nat.le_refl _) _).alloc (by simp) _)
  have K1 := Lib.hid (show Blk w1 w.heap.size 23 KC by rw [hw1]; exact (Blk.new w 23 KC _ rfl).alloc _)
  have N1 := Lib.hid (show Blk w1 (w.heap.size + 1) 67 (row8 [n0, n1]) by rw [hw1]; exact Blk.new _ 67 (row8 [n0, n1]) (w.heap.size + 1) (by simp))
  have hc0 : (m : Int) ≤ (cap : Int) := by omega
  have hc1 : m ≤ cap := by omega
  have hc2 : (0 : Int) ≤ (m : Int) := by omega
  have HMD := Lib.hid (show IntKind.i64.wrap (512 - (m : Int)) = ((512 - m : Nat) : Int) by rw [IntKind.wrap_i64]; omega)
  have hmd := HMD.out
  have HMF := Lib.hid (show b.length + (512 - m) ≤ 140737488355328 by omega)
  have HMIN := Lib.hid (fun (o : Oper) (a : Act) (V : World) (x : Operand) (ts : Array TypeId) ho hx => (show (execOp a.eval o).run Tryz.prog V = .ok (.value (.int .i64 (m : Int))) V by rw [hm]; exact ex_min_at (L := L) (x := x) (ts := ts) ho hx))
  have HRL := Lib.hid (show ∀ g, 0 < b.length → (.slice ao m cap : Value).ownBlock = some g → g < w.heap.size ∨ False from fun g h e => .inl (HRB.out.in_ h g e))
  have HLB := Lib.hid hbl
  rw [← hL]
  by_cases hne : k0 = k1
  · subst hne
    have hbq : ((k0 : Int) == (k0 : Int)) = true := by rw [beq_iff_eq]
    have F2 := F1.more (show 1 ≤ 2 by decide)
    have R2 := R1
    have hraw3 : SP.raw p S1 ⟨k0 + 1, SP.leaf p (k0 + 1) (SP.sealed p k0 D)⟩ = (SP.sealed p k0 D, 0) := by
      rw [← hC, ← hrr1]
      exact hraw1
    have e3 := SP.data_back hpo hDb (by rw [hDl, hsize]) hraw3
    rw [← hC, ← hrr1] at e3
    have H3 := Lib.hid (fun W s d A (h : Laid w.heap.size W s d p A S1) => (show Calls Tryz.prog 14 #[.pointer (some ⟨s, 0, none⟩), .agg (pc r1).toArray] W fun e w' => ∃ y, e = .returned (.tuple #[y, .int .i64 0]) ∧ Rd w' y D ∧ NewB W y ∧ Below W.heap.size W w' by have q := laid_data hpo h F2 (by decide) r1 hr1; rw [e3] at q; exact q))
    have e4 := SP.putPage_room (R2 20 (by decide)) hbs
    rw [← hPG] at e4
    have F3 := F2.lay p 20 hPb (by rw [hPl]; exact SP.size_le hpo)
    have R3 := R2.lay (show 20 ≤ 23 by decide) hPl
    have hraw4 := SP.raw_lay hpo (R2 20 (by decide)) hPl (SP.psum PG)
    obtain ⟨S3, hS3⟩ : ∃ x, x = (SP.lay p S1 20 PG).1 := ⟨_, rfl⟩
    rw [← hS3] at e4 F3 R3 hraw4
    have hr4 : Pok ⟨20 + 1, SP.psum PG⟩ := ⟨show (20 + 1 : Nat) < 4294967296 by decide, sha_bytes _⟩
    have e5 : SP.page p S3 ⟨20 + 1, SP.psum PG⟩ = (D, 0) := (SP.page_back hraw4).trans (by rw [hPD])
    have H4 := Lib.hid (fun W s d A (h : Laid w.heap.size W s d p A S1) v (hv : Rd W v b) => (show Calls Tryz.prog 19 #[.pointer (some ⟨s, 0, none⟩), .int .u32 20, v] W fun e w' => e = .returned (.tuple #[.agg (pc ⟨20 + 1, SP.psum PG⟩).toArray, .int .i64 0]) ∧ Laid w.heap.size w' s d p A S3 ∧ Kept w.heap.size A W w' by have q := laid_putpage hpo h F2 (by decide) 20 (by decide) b v hv; rw [e4] at q; exact q))
    have H5 := Lib.hid (fun W s d A (h : Laid w.heap.size W s d p A S3) => (show Calls Tryz.prog 16 #[.pointer (some ⟨s, 0, none⟩), .agg (pc ⟨20 + 1, SP.psum PG⟩).toArray] W fun e w' => ∃ y, e = .returned (.tuple #[y, .int .i64 0]) ∧ Own w' W.heap.size y D ∧ Below W.heap.size W w' by have q := laid_page hpo h F3 (by decide) ⟨20 + 1, SP.psum PG⟩ hr4; rw [e5] at q; exact q))
    have PC33 := Lib.hid (pc_len hr4)
    have PC1 := Lib.hid (one_pg ⟨20 + 1, SP.psum PG⟩)
    obtain ⟨PC, hPC⟩ : ∃ x, x = pc ⟨20 + 1, SP.psum PG⟩ := ⟨_, rfl⟩
    rw [← hPC] at H4 H5 PC33 PC1
    have e6 := SP.putNode_room hpo (R3 21 (by decide)) xNd_ok
    have hNl := SP.nodeBytes_len hpo xNd_ok
    have F4 := F3.put p 21 (b := SP.nodeBytes p xNd) (by unfold SP.nodeBytes; exact SP.padTo_byte' _ (SP.ones_byte3 _ xNd_ok.ok)) (by rw [hNl]; exact SP.size_le hpo) (SP.nsum (SP.nodeBytes p xNd))
    rw [show SP.put p S3 21 (SP.nodeBytes p xNd) (SP.nsum (SP.nodeBytes p xNd)) = _ from SP.put_room (R3 21 (by decide)) hNl _] at F4
    have hraw6 := SP.raw_lay hpo (R3 21 (by decide)) hNl (SP.nsum (SP.nodeBytes p xNd))
    have e7 := SP.node_back xNd_ok xNd_may hraw6
    obtain ⟨S4, hS4⟩ : ∃ x, x = (SP.lay p S3 21 (SP.nodeBytes p xNd)).1 := ⟨_, rfl⟩
    rw [← hS4] at e6 F4 e7
    have hr6 : Pok ⟨21 + 1, SP.nsum (SP.nodeBytes p xNd)⟩ := ⟨show (21 + 1 : Nat) < 4294967296 by decide, sha_bytes _⟩
    have H6 := Lib.hid (fun W s d A (h : Laid w.heap.size W s d p A S3) => (show Calls Tryz.prog 18 #[.pointer (some ⟨s, 0, none⟩), .int .u32 21, .agg (pcs xNd).toArray] W fun e w' => e = .returned (.tuple #[.agg (pc ⟨21 + 1, SP.nsum (SP.nodeBytes p xNd)⟩).toArray, .int .i64 0]) ∧ Laid w.heap.size w' s d p A S4 ∧ Kept w.heap.size A W w' by have q := laid_putnode hpo h F3 (by decide) 21 (by decide) xNd xNd_ok; rw [e6] at q; exact q))
    have H7 := Lib.hid (fun W s d A (h : Laid w.heap.size W s d p A S4) => (show Calls Tryz.prog 15 #[.pointer (some ⟨s, 0, none⟩), .agg (pc ⟨21 + 1, SP.nsum (SP.nodeBytes p xNd)⟩).toArray] W fun e w' => e = .returned (.tuple #[.agg (pcs xNd).toArray, .int .i64 0]) ∧ Below W.heap.size W w' by have q := laid_node hpo h F4 (by decide) ⟨21 + 1, SP.nsum (SP.nodeBytes p xNd)⟩ hr6; rw [e7] at q; exact q))
    have NC33 := Lib.hid (pc_len hr6)
    have NC1 := Lib.hid (one_pg ⟨21 + 1, SP.nsum (SP.nodeBytes p xNd)⟩)
    obtain ⟨NC, hNC⟩ : ∃ x, x = pc ⟨21 + 1, SP.nsum (SP.nodeBytes p xNd)⟩ := ⟨_, rfl⟩
    rw [← hNC] at H6 H7 NC33 NC1
    obtain ⟨RC, hRC⟩ : ∃ x, x = pc r1 := ⟨_, rfl⟩
    rw [← hRC] at H1 H3 RC33 RC1
    obtain ⟨XC, hXC⟩ : ∃ x, x = pcs xNd := ⟨_, rfl⟩
    rw [← hXC] at H6 H7 HB51 XC264 XC1 HNQ
    clear e1 e3 e4 e5 e6 e7 F0 F1 F2 F3 F4 R0 R1 R2 R3 hraw1 hraw3 hraw4 hraw6 hr1 hr4 hr6 hNl hrr1 hS0 hS1 hS3 hS4 hPC hNC hRC hXC hC hCl hCb hPG hPD hPl hPb hbs hD hDl hDb hp hpo hper hsize hKC hR7 hRZ hZN tx tu tp h0 h1 h2 hb hbl hbm hL hm hk0 hk1
    go_enter Tryz.func5, Tryz.ntmps5
    go_upto_region 1 with fail
    rw [← hw1]
    clear hw1
    go_upto_region 3 with (first
      | ((with_reducible show wpList _ _ _ (Oper.mk (some 28) (.call _) _ _ _ _ :: _) _ _); refine wpList_wanted rfl (.int .i64 (m : Int)) (HMIN.out _ _ _ (.tmp 27) _ rfl rfl) ?_)
      | ((with_reducible show wpList _ _ _ (Oper.mk (some 32) (.call _) _ _ _ _ :: _) _ _); refine wpList_app rfl (.tmp 30) (.tmp 31) rfl w1.heap.size (.slice (some ⟨w1.heap.size, 0, none⟩) 0 0) _ [] b rfl rfl (own_empty w1 rfl (Nat.le_refl _)) ((HRB.out.below W1.out).alloc _) (by have := HLB.out; simp; omega) (by simp) ?_; intro v2 w2 o2 g2 q2; rw [List.nil_append] at o2; have O2 := Lib.hid o2; have bb : Below w1.heap.size w1 w2 := ((Below.refl _ _).alloc (Nat.le_refl _) _).grown g2 (by simp) (fun k hk => by have e : w1.heap.size = k := Option.some.inj hk; omega); have Z2 := Lib.hid bb.size; have W2 := Lib.hid (W1.out.on bb); have K2 := Lib.hid (K1.out.below bb K1.out.lt); have N2 := Lib.hid (N1.out.below bb N1.out.lt); obtain ⟨va, vc, rfl, _⟩ := o2.rd.shape; clear o2 bb g2 q2)
      | ((with_reducible show wpList _ _ _ (Oper.mk (some 36) (.call _) _ _ _ _ :: _) _ _); refine wpList_app0 rfl (.tmp 32) (.tmp 35) rfl w1.heap.size (.slice va b.length vc) b (512 - m) rfl rfl O2.out HMF.out Z2.out ?_; intro v3 w4 o3 g3 q3; rw [← HBD.out] at o3; have O4 := Lib.hid o3.rd; have OB := Lib.hid o3.from; have W4 := Lib.hid (W2.out.grown g3 W2.out.size (fun k hk => by have := (O2.out.from k hk).1; have := W1.out.size; omega)); have K4 := Lib.hid (K2.out.grown g3 (fun q => by have := (O2.out.from _ q.symm).1; have := K1.out.lt; omega)); have N4 := Lib.hid (N2.out.grown g3 (fun q => by have := (O2.out.from _ q.symm).1; have := N1.out.lt; omega)); obtain ⟨da, dc, rfl, _⟩ := o3.rd.shape; clear o3 g3 q3))
    refine wp_region_l (by kernel_rfl) 4 (by decide) (by kernel_rfl) (by kernel_rfl) (by kernel_rfl) [⟨fun v W => ∃ d, v = .pointer (some ⟨d, 0, none⟩) ∧ ∃ A, Dev w.heap.size A W d S0 ∧ (∀ k, w.heap.size ≤ k → k < w4.heap.size → A k), fun h k => by obtain ⟨d, e, A, g, n⟩ := h; exact ⟨d, e, A, g.below k, n⟩⟩, .val (.agg #[.int .i64 8, .int .i64 1]), .val (.agg KC.toArray), ⟨fun v W => ∃ s, v = .pointer (some ⟨s, 0, none⟩) ∧ ∃ d A, Laid w.heap.size W s d p A S0 ∧ (∀ k, w.heap.size ≤ k → k < w4.heap.size → A k), fun h k => by obtain ⟨s, e, d, A, g, n⟩ := h; exact ⟨s, e, d, A, g.below k, n⟩⟩] ?_ ?_
    · refine ⟨?_, ?_, ?_, ?_, trivial⟩
      · intro a w' hF hB hd
        exact doesL_call rfl (ex_call (vs := #[]) rfl (by simp) (by go_simp)) ((HB.out w' (W4.out.on hB)).mono fun e w3 hh => by obtain ⟨d, he, hd, hb⟩ := hh; exact ⟨_, he, ⟨d, rfl, _, hd, fun k h1 h2 => ⟨h1, Nat.lt_of_lt_of_le h2 hB.size⟩⟩, hb⟩)
      · intro a w' hF hB hd
        exact doesL_val rfl (ex_build rfl (by kernel_rfl)) rfl
      · intro a w' hF hB hd
        have e3 : a.eval (.tmp 3) = .pointer (some ⟨w.heap.size, 0, none⟩) := hF 3 (by decide +kernel)
        exact doesL_val rfl (ex_load_part 23 (.tmp 3) rfl w.heap.size 0 e3 KC _ ((K4.out.below hB K4.out.lt).range) Tryz.underlying23 rfl (by rw [KC32.out]; exact infoKeyP)) rfl
      · intro a w' hF hB hd
        obtain ⟨d, e37, A, hdv, hA⟩ : ∃ d, a.eval (.tmp 37) = .pointer (some ⟨d, 0, none⟩) ∧ ∃ A, Dev w.heap.size A w' d S0 ∧ (∀ k, w.heap.size ≤ k → k < w4.heap.size → A k) := hd 0 (by decide +kernel)
        have e38 : a.eval (.tmp 38) = .agg #[.int .i64 8, .int .i64 1] := hd 1 (by decide +kernel)
        have e39 : a.eval (.tmp 39) = .agg KC.toArray := hd 2 (by decide +kernel)
        exact doesL_call rfl (ex_call (vs := #[.pointer (some ⟨d, 0, none⟩), .agg #[.int .i64 8, .int .i64 1], .agg KC.toArray]) rfl (by simp only [List.map_toArray, List.map_cons, List.map_nil, e37, e38, e39]) (by go_simp)) ((HNW.out w' d (W4.out.on hB)).mono fun e w3 hh => by obtain ⟨s, he, hs, hb⟩ := hh; exact ⟨_, he, ⟨s, rfl, d, _, laid_new hdv (HT.out.below (W4.out.on hB)) hs hb, fun k h1 h2 => .inl (hA k h1 h2)⟩, hb⟩)
    · intro vs w5 hB hv
      obtain ⟨s, e40, d, A5, hl, hA⟩ : ∃ s, vs 3 = .pointer (some ⟨s, 0, none⟩) ∧ ∃ d A, Laid w.heap.size w5 s d p A S0 ∧ (∀ k, w.heap.size ≤ k → k < w4.heap.size → A k) := hv 3 (by decide)
      simp only [List.take_succ_cons, List.take_zero, List.drop_succ_cons, List.drop_zero, putOps, Act.put, List.setIfInBounds_toArray, List.set_cons_zero, List.set_cons_succ, e40]
      have L5 := Lib.hid hl
      have W5 := Lib.hid (W4.out.on hB)
      have N5 := Lib.hid (N4.out.below hB N4.out.lt)
      have D5 := Lib.hid (O4.out.below hB)
      have MD5 := Lib.hid (fun (_ : 0 < D.length) g e => (show g < w.heap.size ∨ A5 g from .inr (hA g (Nat.le_trans W1.out.size (OB.out g e).1) (OB.out g e).2)))
      have B5 := Lib.hid (HRB.out.below W5.out)
      have MB5 := Lib.hid (fun (h : 0 < b.length) g e => (show g < w.heap.size ∨ A5 g from .inl (HRB.out.in_ h g e)))
      clear hv e40 hB hl hA
      generalize vs 0 = z0
      generalize vs 1 = z1
      generalize vs 2 = z2
      go_upto_region 4 with fail
      refine wp_region_l (by kernel_rfl) 9 (by decide) (by kernel_rfl) (by kernel_rfl) (by kernel_rfl) [.val (.pointer (some ⟨(w.heap.size + 1), 0, none⟩)), .val (.int .u8 (n0 : Int)), .val (.int .u8 (k0 : Int)), .val (.int .u32 (k0 : Int)), .val (.pointer (some ⟨(w.heap.size + 1), 1, none⟩)), .val (.int .u8 (n1 : Int)), .val (.int .u8 (k0 : Int)), .val (.int .u32 (k0 : Int)), .val (.int .u32 (k0 : Int))] ?_ ?_
      · refine ⟨?_, ?_, ?_, ?_, ?_, ?_, ?_, ?_, ?_, trivial⟩
        · intro a w' hF hB hd
          have e4 : a.eval (.tmp 4) = .pointer (some ⟨(w.heap.size + 1), 0, none⟩) := hF 4 (by decide +kernel)
          exact doesL_val rfl (v := .pointer (some ⟨(w.heap.size + 1), 0, none⟩)) (by unfold execOp; simp only [e4]; go_simp) rfl
        · intro a w' hF hB hd
          have e41 : a.eval (.tmp 41) = .pointer (some ⟨(w.heap.size + 1), 0, none⟩) := hd 0 (by decide +kernel)
          have cc := (N5.out.below hB N5.out.lt).cell 0 _ rfl
          exact doesL_val rfl (v := .int .u8 (n0 : Int)) (by unfold execOp; simp only [e41]; go_simp) rfl
        · intro a w' hF hB hd
          have e42 : a.eval (.tmp 42) = .int .u8 (n0 : Int) := hd 1 (by decide +kernel)
          exact doesL_val rfl (ex_binOp rfl e42 rfl (by go_simp) (by obtain ⟨ha, ha2⟩ := Hk0.out; go_simp)) rfl
        · intro a w' hF hB hd
          have e43 : a.eval (.tmp 43) = .int .u8 (k0 : Int) := hd 2 (by decide +kernel)
          have hw := HWk0.out
          exact doesL_val rfl (v := .int .u32 (k0 : Int)) (by unfold execOp; simp only [e43]; go_simp) rfl
        · intro a w' hF hB hd
          have e4 : a.eval (.tmp 4) = .pointer (some ⟨(w.heap.size + 1), 0, none⟩) := hF 4 (by decide +kernel)
          exact doesL_val rfl (v := .pointer (some ⟨(w.heap.size + 1), 1, none⟩)) (by unfold execOp; simp only [e4]; go_simp) rfl
        · intro a w' hF hB hd
          have e45 : a.eval (.tmp 45) = .pointer (some ⟨(w.heap.size + 1), 1, none⟩) := hd 4 (by decide +kernel)
          have cc := (N5.out.below hB N5.out.lt).cell 1 _ rfl
          exact doesL_val rfl (v := .int .u8 (n1 : Int)) (by unfold execOp; simp only [e45]; go_simp) rfl
        · intro a w' hF hB hd
          have e46 : a.eval (.tmp 46) = .int .u8 (n1 : Int) := hd 5 (by decide +kernel)
          exact doesL_val rfl (ex_binOp rfl e46 rfl (by go_simp) (by obtain ⟨ha, ha2⟩ := Hk1.out; go_simp)) rfl
        · intro a w' hF hB hd
          have e47 : a.eval (.tmp 47) = .int .u8 (k0 : Int) := hd 6 (by decide +kernel)
          have hw := HWk1.out
          exact doesL_val rfl (v := .int .u32 (k0 : Int)) (by unfold execOp; simp only [e47]; go_simp) rfl
        · intro a w' hF hB hd
          have e44 : a.eval (.tmp 44) = .int .u32 (k0 : Int) := hd 3 (by decide +kernel)
          exact doesL_val rfl (ex_assign rfl e44) rfl
      · intro vs w6 hB hv
        have e48 : vs 7 = .int .u32 (k0 : Int) := hv 7 (by decide)
        have e9 : vs 8 = .int .u32 (k0 : Int) := hv 8 (by decide)
        simp only [List.take_succ_cons, List.take_zero, List.drop_succ_cons, List.drop_zero, putOps, Act.put, List.setIfInBounds_toArray, List.set_cons_zero, List.set_cons_succ, e48, e9]
        have L6 := Lib.hid (L5.out.below hB)
        have W6 := Lib.hid (W5.out.on hB)
        have D6 := Lib.hid (D5.out.below hB)
        have MD6 := MD5
        have B6 := Lib.hid (B5.out.below hB)
        have MB6 := MB5
        clear hv e48 e9 hB
        generalize vs 0 = u0
        generalize vs 1 = u1
        generalize vs 2 = u2
        generalize vs 3 = u3
        generalize vs 4 = u4
        generalize vs 5 = u5
        generalize vs 6 = u6
        go_wp2_with (first
          | (go_at_call 17; (with_reducible refine (H1.out w6 s d _ L6.out (.slice da D.length dc) D6.out).mono ?_); rintro e w7 ⟨rfl, ll, kk⟩; have L7 := Lib.hid ll; have D7 := Lib.hid (D6.out.kept0 kk MD6.out); have MD7 := MD6; have B7 := Lib.hid (B6.out.kept0 kk MB6.out); have MB7 := MB6; have W7 := Lib.hid (kk.below W6.out W6.out.size); clear kk ll)
          | ((with_reducible show wpList _ _ _ (Oper.mk _ (.store _ (.tmp 11) (.tmp 54)) _ _ _ _ :: _) _ _); refine wpList_store_blk rfl 49 (.tmp 11) (.tmp 54) rfl w7.heap.size 0 RC rfl rfl 49 RZ (Blk.new w7 49 RZ _ rfl) (by have := RC33.out; have := RZ33.out; omega) (by rw [RC33.out]; exact infoRfQ) RC1.out ?_; intro w8 b' g'; rw [splice_all _ _ (by rw [RC33.out, RZ33.out])] at b'; have bb := alloc_turn (Below.refl _ _) g'; have D8 := Lib.hid (D7.out.below bb); have B8 := Lib.hid (B7.out.below bb); have W8 := Lib.hid (W7.out.on bb); obtain ⟨A8, l', i', n'⟩ := L7.out.own2 bb; have L8 := Lib.hid l'; have MD8 := Lib.hid (fun h g e => (MD7.out h g e).imp_right (i' g)); have MB8 := Lib.hid (fun h g e => (MB7.out h g e).imp_right (i' g)); have X8 := Lib.hid (b'); have MX8 := Lib.hid (n' _ (Nat.le_refl _) b'.lt); clear bb l' i' n'; clear b' g'; obtain ⟨rX, hrX⟩ : ∃ x, x = w7.heap.size := ⟨_, rfl⟩; rw [← hrX] at X8 MX8 ⊢; clear hrX)
          | ((with_reducible show wpList _ _ _ (Oper.mk (some 76) (.load _ (.tmp 11)) _ _ _ _ :: _) _ _); refine wpList_load_wanted rfl 49 (.tmp 11) rfl rX 0 rfl RC _ X8.out.range Tryz.underlying49 rfl (by rw [RC33.out]; exact infoRfQ) ?_)
          | (go_at_call 14; (with_reducible refine (H3.out w8 s d _ L8.out).mono ?_); rintro e w9 ⟨y, rfl, ry, ny, bb⟩; obtain ⟨Ya, Yc, rfl, _⟩ := ry.shape; have D9 := Lib.hid (D8.out.below bb); have B9 := Lib.hid (B8.out.below bb); have X9 := Lib.hid (X8.out.below bb X8.out.lt); have W9 := Lib.hid (W8.out.on bb); obtain ⟨A9, l', i', n'⟩ := L8.out.own2 bb; have L9 := Lib.hid l'; have MD9 := Lib.hid (fun h g e => (MD8.out h g e).imp_right (i' g)); have MB9 := Lib.hid (fun h g e => (MB8.out h g e).imp_right (i' g)); have MX9 := Lib.hid (i' _ MX8.out); have Y9 := Lib.hid (ry); have MY9 := Lib.hid (fun h g e => (Or.inr (n' g (ny g e) (ry.in_ h g e)) : g < w.heap.size ∨ A9 g)); clear bb l' i' n'; clear ry ny)
          | (go_at_call 19; (with_reducible refine (H4.out w9 s d _ L9.out (.slice ao m cap) B9.out).mono ?_); rintro e w10 ⟨rfl, ll, kk⟩; have L10 := Lib.hid ll; have D10 := Lib.hid (D9.out.kept0 kk MD9.out); have MD10 := MD9; have B10 := Lib.hid (B9.out.kept0 kk MB9.out); have MB10 := MB9; have X10 := Lib.hid (X9.out.kept kk (.inr MX9.out)); have MX10 := MX9; have Y10 := Lib.hid (Y9.out.kept0 kk MY9.out); have MY10 := MY9; have W10 := Lib.hid (kk.below W9.out W9.out.size); clear kk ll)
          | ((with_reducible show wpList _ _ _ (Oper.mk _ (.store _ (.tmp 17) (.tmp 84)) _ _ _ _ :: _) _ _); refine wpList_store_blk rfl 49 (.tmp 17) (.tmp 84) rfl w10.heap.size 0 PC rfl rfl 49 RZ (Blk.new w10 49 RZ _ rfl) (by have := PC33.out; have := RZ33.out; omega) (by rw [PC33.out]; exact infoRfQ) PC1.out ?_; intro w11 b' g'; rw [splice_all _ _ (by rw [PC33.out, RZ33.out])] at b'; have bb := alloc_turn (Below.refl _ _) g'; have D11 := Lib.hid (D10.out.below bb); have B11 := Lib.hid (B10.out.below bb); have X11 := Lib.hid (X10.out.below bb X10.out.lt); have Y11 := Lib.hid (Y10.out.below bb); have W11 := Lib.hid (W10.out.on bb); obtain ⟨A11, l', i', n'⟩ := L10.out.own2 bb; have L11 := Lib.hid l'; have MD11 := Lib.hid (fun h g e => (MD10.out h g e).imp_right (i' g)); have MB11 := Lib.hid (fun h g e => (MB10.out h g e).imp_right (i' g)); have MX11 := Lib.hid (i' _ MX10.out); have MY11 := Lib.hid (fun h g e => (MY10.out h g e).imp_right (i' g)); have P11 := Lib.hid (b'); have MP11 := Lib.hid (n' _ (Nat.le_refl _) b'.lt); clear bb l' i' n'; clear b' g'; obtain ⟨rP, hrP⟩ : ∃ x, x = w10.heap.size := ⟨_, rfl⟩; rw [← hrP] at P11 MP11 ⊢; clear hrP)
          | ((with_reducible show wpList _ _ _ (Oper.mk (some 88) (.load _ (.tmp 17)) _ _ _ _ :: _) _ _); refine wpList_load_wanted rfl 49 (.tmp 17) rfl rP 0 rfl PC _ P11.out.range Tryz.underlying49 rfl (by rw [PC33.out]; exact infoRfQ) ?_)
          | (go_at_call 16; (with_reducible refine (H5.out w11 s d _ L11.out).mono ?_); rintro e w12 ⟨y, rfl, oy, bb⟩; have ry := oy.rd; have ny : NewB _ y := fun g e => (oy.from g e).1; clear oy; obtain ⟨Va, Vc, rfl, _⟩ := ry.shape; have D12 := Lib.hid (D11.out.below bb); have B12 := Lib.hid (B11.out.below bb); have X12 := Lib.hid (X11.out.below bb X11.out.lt); have Y12 := Lib.hid (Y11.out.below bb); have P12 := Lib.hid (P11.out.below bb P11.out.lt); have W12 := Lib.hid (W11.out.on bb); obtain ⟨A12, l', i', n'⟩ := L11.out.own2 bb; have L12 := Lib.hid l'; have MD12 := Lib.hid (fun h g e => (MD11.out h g e).imp_right (i' g)); have MB12 := Lib.hid (fun h g e => (MB11.out h g e).imp_right (i' g)); have MX12 := Lib.hid (i' _ MX11.out); have MY12 := Lib.hid (fun h g e => (MY11.out h g e).imp_right (i' g)); have MP12 := Lib.hid (i' _ MP11.out); have V12 := Lib.hid (ry); have MV12 := Lib.hid (fun h g e => (Or.inr (n' g (ny g e) (ry.in_ h g e)) : g < w.heap.size ∨ A12 g)); clear bb l' i' n'; clear ry ny)
          | ((with_reducible show wpList _ _ _ (Oper.mk (some 94) (.build _ _) _ _ _ _ :: _) _ _); refine wpList_wanted rfl (.agg R7.toArray) (ex_build rfl (by simp only [List.map_toArray, List.map_cons, List.map_nil]; exact HB7.out)) ?_)
          | ((with_reducible show wpList _ _ _ (Oper.mk (some 95) (.build _ _) _ _ _ _ :: _) _ _); refine wpList_wanted rfl (.agg XC.toArray) (ex_build rfl (by simp only [List.map_toArray, List.map_cons, List.map_nil]; exact HB51.out)) ?_)
          | (go_at_call 18; (with_reducible refine (H6.out w12 s d _ L12.out).mono ?_); rintro e w13 ⟨rfl, ll, kk⟩; have L13 := Lib.hid ll; have D13 := Lib.hid (D12.out.kept0 kk MD12.out); have MD13 := MD12; have B13 := Lib.hid (B12.out.kept0 kk MB12.out); have MB13 := MB12; have X13 := Lib.hid (X12.out.kept kk (.inr MX12.out)); have MX13 := MX12; have Y13 := Lib.hid (Y12.out.kept0 kk MY12.out); have MY13 := MY12; have P13 := Lib.hid (P12.out.kept kk (.inr MP12.out)); have MP13 := MP12; have V13 := Lib.hid (V12.out.kept0 kk MV12.out); have MV13 := MV12; have W13 := Lib.hid (kk.below W12.out W12.out.size); clear kk ll)
          | ((with_reducible show wpList _ _ _ (Oper.mk _ (.store _ (.tmp 21) (.tmp 97)) _ _ _ _ :: _) _ _); refine wpList_store_blk rfl 49 (.tmp 21) (.tmp 97) rfl w13.heap.size 0 NC rfl rfl 49 RZ (Blk.new w13 49 RZ _ rfl) (by have := NC33.out; have := RZ33.out; omega) (by rw [NC33.out]; exact infoRfQ) NC1.out ?_; intro w14 b' g'; rw [splice_all _ _ (by rw [NC33.out, RZ33.out])] at b'; have bb := alloc_turn (Below.refl _ _) g'; have D14 := Lib.hid (D13.out.below bb); have B14 := Lib.hid (B13.out.below bb); have X14 := Lib.hid (X13.out.below bb X13.out.lt); have Y14 := Lib.hid (Y13.out.below bb); have P14 := Lib.hid (P13.out.below bb P13.out.lt); have V14 := Lib.hid (V13.out.below bb); have W14 := Lib.hid (W13.out.on bb); obtain ⟨A14, l', i', n'⟩ := L13.out.own2 bb; have L14 := Lib.hid l'; have MD14 := Lib.hid (fun h g e => (MD13.out h g e).imp_right (i' g)); have MB14 := Lib.hid (fun h g e => (MB13.out h g e).imp_right (i' g)); have MX14 := Lib.hid (i' _ MX13.out); have MY14 := Lib.hid (fun h g e => (MY13.out h g e).imp_right (i' g)); have MP14 := Lib.hid (i' _ MP13.out); have MV14 := Lib.hid (fun h g e => (MV13.out h g e).imp_right (i' g)); have Q14 := Lib.hid (b'); have MQ14 := Lib.hid (n' _ (Nat.le_refl _) b'.lt); clear bb l' i' n'; clear b' g'; obtain ⟨rQ, hrQ⟩ : ∃ x, x = w13.heap.size := ⟨_, rfl⟩; rw [← hrQ] at Q14 MQ14 ⊢; clear hrQ)
          | ((with_reducible show wpList _ _ _ (Oper.mk (some 101) (.load _ (.tmp 21)) _ _ _ _ :: _) _ _); refine wpList_load_wanted rfl 49 (.tmp 21) rfl rQ 0 rfl NC _ Q14.out.range Tryz.underlying49 rfl (by rw [NC33.out]; exact infoRfQ) ?_)
          | (go_at_call 15; (with_reducible refine (H7.out w14 s d _ L14.out).mono ?_); rintro e w15 ⟨rfl, bb⟩; have D15 := Lib.hid (D14.out.below bb); have B15 := Lib.hid (B14.out.below bb); have X15 := Lib.hid (X14.out.below bb X14.out.lt); have Y15 := Lib.hid (Y14.out.below bb); have P15 := Lib.hid (P14.out.below bb P14.out.lt); have V15 := Lib.hid (V14.out.below bb); have Q15 := Lib.hid (Q14.out.below bb Q14.out.lt); have W15 := Lib.hid (W14.out.on bb); obtain ⟨A15, l', i', n'⟩ := L14.out.own2 bb; have L15 := Lib.hid l'; have MD15 := Lib.hid (fun h g e => (MD14.out h g e).imp_right (i' g)); have MB15 := Lib.hid (fun h g e => (MB14.out h g e).imp_right (i' g)); have MX15 := Lib.hid (i' _ MX14.out); have MY15 := Lib.hid (fun h g e => (MY14.out h g e).imp_right (i' g)); have MP15 := Lib.hid (i' _ MP14.out); have MV15 := Lib.hid (fun h g e => (MV14.out h g e).imp_right (i' g)); have MQ15 := Lib.hid (i' _ MQ14.out); clear bb l' i' n')
          | ((with_reducible show wpList _ _ _ (Oper.mk _ (.store _ (.tmp 23) (.tmp 103)) _ _ _ _ :: _) _ _); refine wpList_store_blk rfl 51 (.tmp 23) (.tmp 103) rfl w15.heap.size 0 XC rfl rfl 51 ZN (Blk.new w15 51 ZN _ rfl) (by have := XC264.out; have := ZN264.out; omega) (by rw [XC264.out]; exact infoNdP) XC1.out ?_; intro w16 b' g'; rw [splice_all _ _ (by rw [XC264.out, ZN264.out])] at b'; have bb := alloc_turn (Below.refl _ _) g'; have D16 := Lib.hid (D15.out.below bb); have B16 := Lib.hid (B15.out.below bb); have X16 := Lib.hid (X15.out.below bb X15.out.lt); have Y16 := Lib.hid (Y15.out.below bb); have P16 := Lib.hid (P15.out.below bb P15.out.lt); have V16 := Lib.hid (V15.out.below bb); have Q16 := Lib.hid (Q15.out.below bb Q15.out.lt); have W16 := Lib.hid (W15.out.on bb); obtain ⟨A16, l', i', n'⟩ := L15.out.own2 bb; have L16 := Lib.hid l'; have MD16 := Lib.hid (fun h g e => (MD15.out h g e).imp_right (i' g)); have MB16 := Lib.hid (fun h g e => (MB15.out h g e).imp_right (i' g)); have MX16 := Lib.hid (i' _ MX15.out); have MY16 := Lib.hid (fun h g e => (MY15.out h g e).imp_right (i' g)); have MP16 := Lib.hid (i' _ MP15.out); have MV16 := Lib.hid (fun h g e => (MV15.out h g e).imp_right (i' g)); have MQ16 := Lib.hid (i' _ MQ15.out); have Z16 := Lib.hid (b'); have MZ16 := Lib.hid (n' _ (Nat.le_refl _) b'.lt); clear bb l' i' n'; clear b' g'; obtain ⟨rZ, hrZ⟩ : ∃ x, x = w15.heap.size := ⟨_, rfl⟩; rw [← hrZ] at Z16 MZ16 ⊢; clear hrZ; have hs1 := Y16.out.str; have hs2 := V16.out.str; have hs3 := D16.out.str)
          | ((with_reducible show wpList _ _ _ (Oper.mk (some 138) (.load _ (.tmp 23)) _ _ _ _ :: _) _ _); refine wpList_load_wanted rfl 51 (.tmp 23) rfl rZ 0 rfl XC _ Z16.out.range Tryz.underlying51 rfl (by rw [XC264.out]; exact infoNdP) ?_)
          | ((with_reducible show wpList _ _ _ (Oper.mk (some 139) (.build _ _) _ _ _ _ :: _) _ _); refine wpList_wanted rfl (.agg R7.toArray) (ex_build rfl (by simp only [List.map_toArray, List.map_cons, List.map_nil]; exact HB7.out)) ?_)
          | ((with_reducible show wpList _ _ _ (Oper.mk (some 140) (.build _ _) _ _ _ _ :: _) _ _); refine wpList_wanted rfl (.agg XC.toArray) (ex_build rfl (by simp only [List.map_toArray, List.map_cons, List.map_nil]; exact HB51.out)) ?_)
          | ((with_reducible show wpList _ _ _ (Oper.mk (some 141) (.binOp _ _ _ _ _) _ _ _ _ :: _) _ _); refine wpList_wanted rfl (.bool true) (ex_binOp (x := .tmp 138) (y := .tmp 140) (b := .eql) (t := 51) rfl rfl rfl (run_eqGuard_agg _ _ _ _ _ _ _ eqTypeNd) (HNQ.out _)) ?_)
          | (go_at_call 8; (with_reducible refine (HAW.out _ W16.out).mono ?_); rintro e w99 ⟨rfl, bb⟩; have W99 := Lib.hid (W16.out.on bb); clear bb))
        go_ret
        exact ⟨rfl, W99.out⟩
  · have hbq : ((k0 : Int) == (k1 : Int)) = false := by rw [beq_eq_false_iff_ne]; omega
    have hbn : ¬ (k0 : Int) = (k1 : Int) := by omega
    have e2 := SP.putPage_room (R1 k1 (by omega)) hbs
    rw [← hPG] at e2
    have F2 := F1.lay p k1 hPb (by rw [hPl]; exact SP.size_le hpo)
    have R2 := R1.lay (show k1 ≤ 23 by omega) hPl
    have hraw2 := (SP.raw_other (R1 k1 (by omega)) (R1 k0 (by omega)) (fun q => hne q.symm) hPl r1.sum)
    obtain ⟨S2, hS2⟩ : ∃ x, x = (SP.lay p S1 k1 PG).1 := ⟨_, rfl⟩
    rw [← hS2] at e2 F2 R2 hraw2
    have hr2 : Pok ⟨k1 + 1, SP.psum PG⟩ := ⟨by show k1 + 1 < 4294967296; omega, sha_bytes _⟩
    have H2 := Lib.hid (fun W s d A (h : Laid w.heap.size W s d p A S1) v (hv : Rd W v b) => (show Calls Tryz.prog 19 #[.pointer (some ⟨s, 0, none⟩), .int .u32 (k1 : Int), v] W fun e w' => e = .returned (.tuple #[.agg (pc ⟨k1 + 1, SP.psum PG⟩).toArray, .int .i64 0]) ∧ Laid w.heap.size w' s d p A S2 ∧ Kept w.heap.size A W w' by have q := laid_putpage hpo h F1 (by decide) k1 (by omega) b v hv; rw [e2] at q; exact q))
    have PC233 := Lib.hid (pc_len hr2)
    have PC21 := Lib.hid (one_pg ⟨k1 + 1, SP.psum PG⟩)
    obtain ⟨PC2, hPC2⟩ : ∃ x, x = pc ⟨k1 + 1, SP.psum PG⟩ := ⟨_, rfl⟩
    rw [← hPC2] at H2 PC233 PC21
    have hraw3 : SP.raw p S2 ⟨k0 + 1, SP.leaf p (k0 + 1) (SP.sealed p k0 D)⟩ = (SP.sealed p k0 D, 0) := by
      rw [← hC, ← hrr1]
      rw [show r1 = ⟨k0 + 1, r1.sum⟩ by rw [hrr1], hraw2, show (⟨k0 + 1, r1.sum⟩ : Pg) = r1 by rw [hrr1]]
      exact hraw1
    have e3 := SP.data_back hpo hDb (by rw [hDl, hsize]) hraw3
    rw [← hC, ← hrr1] at e3
    have H3 := Lib.hid (fun W s d A (h : Laid w.heap.size W s d p A S2) => (show Calls Tryz.prog 14 #[.pointer (some ⟨s, 0, none⟩), .agg (pc r1).toArray] W fun e w' => ∃ y, e = .returned (.tuple #[y, .int .i64 0]) ∧ Rd w' y D ∧ NewB W y ∧ Below W.heap.size W w' by have q := laid_data hpo h F2 (by decide) r1 hr1; rw [e3] at q; exact q))
    have e4 := SP.putPage_room (R2 20 (by decide)) hbs
    rw [← hPG] at e4
    have F3 := F2.lay p 20 hPb (by rw [hPl]; exact SP.size_le hpo)
    have R3 := R2.lay (show 20 ≤ 23 by decide) hPl
    have hraw4 := SP.raw_lay hpo (R2 20 (by decide)) hPl (SP.psum PG)
    obtain ⟨S3, hS3⟩ : ∃ x, x = (SP.lay p S2 20 PG).1 := ⟨_, rfl⟩
    rw [← hS3] at e4 F3 R3 hraw4
    have hr4 : Pok ⟨20 + 1, SP.psum PG⟩ := ⟨show (20 + 1 : Nat) < 4294967296 by decide, sha_bytes _⟩
    have e5 : SP.page p S3 ⟨20 + 1, SP.psum PG⟩ = (D, 0) := (SP.page_back hraw4).trans (by rw [hPD])
    have H4 := Lib.hid (fun W s d A (h : Laid w.heap.size W s d p A S2) v (hv : Rd W v b) => (show Calls Tryz.prog 19 #[.pointer (some ⟨s, 0, none⟩), .int .u32 20, v] W fun e w' => e = .returned (.tuple #[.agg (pc ⟨20 + 1, SP.psum PG⟩).toArray, .int .i64 0]) ∧ Laid w.heap.size w' s d p A S3 ∧ Kept w.heap.size A W w' by have q := laid_putpage hpo h F2 (by decide) 20 (by decide) b v hv; rw [e4] at q; exact q))
    have H5 := Lib.hid (fun W s d A (h : Laid w.heap.size W s d p A S3) => (show Calls Tryz.prog 16 #[.pointer (some ⟨s, 0, none⟩), .agg (pc ⟨20 + 1, SP.psum PG⟩).toArray] W fun e w' => ∃ y, e = .returned (.tuple #[y, .int .i64 0]) ∧ Own w' W.heap.size y D ∧ Below W.heap.size W w' by have q := laid_page hpo h F3 (by decide) ⟨20 + 1, SP.psum PG⟩ hr4; rw [e5] at q; exact q))
    have PC33 := Lib.hid (pc_len hr4)
    have PC1 := Lib.hid (one_pg ⟨20 + 1, SP.psum PG⟩)
    obtain ⟨PC, hPC⟩ : ∃ x, x = pc ⟨20 + 1, SP.psum PG⟩ := ⟨_, rfl⟩
    rw [← hPC] at H4 H5 PC33 PC1
    have e6 := SP.putNode_room hpo (R3 21 (by decide)) xNd_ok
    have hNl := SP.nodeBytes_len hpo xNd_ok
    have F4 := F3.put p 21 (b := SP.nodeBytes p xNd) (by unfold SP.nodeBytes; exact SP.padTo_byte' _ (SP.ones_byte3 _ xNd_ok.ok)) (by rw [hNl]; exact SP.size_le hpo) (SP.nsum (SP.nodeBytes p xNd))
    rw [show SP.put p S3 21 (SP.nodeBytes p xNd) (SP.nsum (SP.nodeBytes p xNd)) = _ from SP.put_room (R3 21 (by decide)) hNl _] at F4
    have hraw6 := SP.raw_lay hpo (R3 21 (by decide)) hNl (SP.nsum (SP.nodeBytes p xNd))
    have e7 := SP.node_back xNd_ok xNd_may hraw6
    obtain ⟨S4, hS4⟩ : ∃ x, x = (SP.lay p S3 21 (SP.nodeBytes p xNd)).1 := ⟨_, rfl⟩
    rw [← hS4] at e6 F4 e7
    have hr6 : Pok ⟨21 + 1, SP.nsum (SP.nodeBytes p xNd)⟩ := ⟨show (21 + 1 : Nat) < 4294967296 by decide, sha_bytes _⟩
    have H6 := Lib.hid (fun W s d A (h : Laid w.heap.size W s d p A S3) => (show Calls Tryz.prog 18 #[.pointer (some ⟨s, 0, none⟩), .int .u32 21, .agg (pcs xNd).toArray] W fun e w' => e = .returned (.tuple #[.agg (pc ⟨21 + 1, SP.nsum (SP.nodeBytes p xNd)⟩).toArray, .int .i64 0]) ∧ Laid w.heap.size w' s d p A S4 ∧ Kept w.heap.size A W w' by have q := laid_putnode hpo h F3 (by decide) 21 (by decide) xNd xNd_ok; rw [e6] at q; exact q))
    have H7 := Lib.hid (fun W s d A (h : Laid w.heap.size W s d p A S4) => (show Calls Tryz.prog 15 #[.pointer (some ⟨s, 0, none⟩), .agg (pc ⟨21 + 1, SP.nsum (SP.nodeBytes p xNd)⟩).toArray] W fun e w' => e = .returned (.tuple #[.agg (pcs xNd).toArray, .int .i64 0]) ∧ Below W.heap.size W w' by have q := laid_node hpo h F4 (by decide) ⟨21 + 1, SP.nsum (SP.nodeBytes p xNd)⟩ hr6; rw [e7] at q; exact q))
    have NC33 := Lib.hid (pc_len hr6)
    have NC1 := Lib.hid (one_pg ⟨21 + 1, SP.nsum (SP.nodeBytes p xNd)⟩)
    obtain ⟨NC, hNC⟩ : ∃ x, x = pc ⟨21 + 1, SP.nsum (SP.nodeBytes p xNd)⟩ := ⟨_, rfl⟩
    rw [← hNC] at H6 H7 NC33 NC1
    obtain ⟨RC, hRC⟩ : ∃ x, x = pc r1 := ⟨_, rfl⟩
    rw [← hRC] at H1 H3 RC33 RC1
    obtain ⟨XC, hXC⟩ : ∃ x, x = pcs xNd := ⟨_, rfl⟩
    rw [← hXC] at H6 H7 HB51 XC264 XC1 HNQ
    clear e1 e3 e4 e5 e6 e7 F0 F1 F2 F3 F4 R0 R1 R2 R3 hraw1 hraw3 hraw4 hraw6 hr1 hr4 hr6 hNl hrr1 hS0 hS1 hS2 hS3 hS4 hPC hNC hRC hXC hC hCl hCb hPG hPD hPl hPb hbs hD hDl hDb hp hpo hper hsize hKC hR7 hRZ hZN tx tu tp h0 h1 h2 hb hbl hbm hL hm hk0 hk1 e2 hr2 hPC2 hraw2
    go_enter Tryz.func5, Tryz.ntmps5
    go_upto_region 1 with fail
    rw [← hw1]
    clear hw1
    go_upto_region 3 with (first
      | ((with_reducible show wpList _ _ _ (Oper.mk (some 28) (.call _) _ _ _ _ :: _) _ _); refine wpList_wanted rfl (.int .i64 (m : Int)) (HMIN.out _ _ _ (.tmp 27) _ rfl rfl) ?_)
      | ((with_reducible show wpList _ _ _ (Oper.mk (some 32) (.call _) _ _ _ _ :: _) _ _); refine wpList_app rfl (.tmp 30) (.tmp 31) rfl w1.heap.size (.slice (some ⟨w1.heap.size, 0, none⟩) 0 0) _ [] b rfl rfl (own_empty w1 rfl (Nat.le_refl _)) ((HRB.out.below W1.out).alloc _) (by have := HLB.out; simp; omega) (by simp) ?_; intro v2 w2 o2 g2 q2; rw [List.nil_append] at o2; have O2 := Lib.hid o2; have bb : Below w1.heap.size w1 w2 := ((Below.refl _ _).alloc (Nat.le_refl _) _).grown g2 (by simp) (fun k hk => by have e : w1.heap.size = k := Option.some.inj hk; omega); have Z2 := Lib.hid bb.size; have W2 := Lib.hid (W1.out.on bb); have K2 := Lib.hid (K1.out.below bb K1.out.lt); have N2 := Lib.hid (N1.out.below bb N1.out.lt); obtain ⟨va, vc, rfl, _⟩ := o2.rd.shape; clear o2 bb g2 q2)
      | ((with_reducible show wpList _ _ _ (Oper.mk (some 36) (.call _) _ _ _ _ :: _) _ _); refine wpList_app0 rfl (.tmp 32) (.tmp 35) rfl w1.heap.size (.slice va b.length vc) b (512 - m) rfl rfl O2.out HMF.out Z2.out ?_; intro v3 w4 o3 g3 q3; rw [← HBD.out] at o3; have O4 := Lib.hid o3.rd; have OB := Lib.hid o3.from; have W4 := Lib.hid (W2.out.grown g3 W2.out.size (fun k hk => by have := (O2.out.from k hk).1; have := W1.out.size; omega)); have K4 := Lib.hid (K2.out.grown g3 (fun q => by have := (O2.out.from _ q.symm).1; have := K1.out.lt; omega)); have N4 := Lib.hid (N2.out.grown g3 (fun q => by have := (O2.out.from _ q.symm).1; have := N1.out.lt; omega)); obtain ⟨da, dc, rfl, _⟩ := o3.rd.shape; clear o3 g3 q3))
    refine wp_region_l (by kernel_rfl) 4 (by decide) (by kernel_rfl) (by kernel_rfl) (by kernel_rfl) [⟨fun v W => ∃ d, v = .pointer (some ⟨d, 0, none⟩) ∧ ∃ A, Dev w.heap.size A W d S0 ∧ (∀ k, w.heap.size ≤ k → k < w4.heap.size → A k), fun h k => by obtain ⟨d, e, A, g, n⟩ := h; exact ⟨d, e, A, g.below k, n⟩⟩, .val (.agg #[.int .i64 8, .int .i64 1]), .val (.agg KC.toArray), ⟨fun v W => ∃ s, v = .pointer (some ⟨s, 0, none⟩) ∧ ∃ d A, Laid w.heap.size W s d p A S0 ∧ (∀ k, w.heap.size ≤ k → k < w4.heap.size → A k), fun h k => by obtain ⟨s, e, d, A, g, n⟩ := h; exact ⟨s, e, d, A, g.below k, n⟩⟩] ?_ ?_
    · refine ⟨?_, ?_, ?_, ?_, trivial⟩
      · intro a w' hF hB hd
        exact doesL_call rfl (ex_call (vs := #[]) rfl (by simp) (by go_simp)) ((HB.out w' (W4.out.on hB)).mono fun e w3 hh => by obtain ⟨d, he, hd, hb⟩ := hh; exact ⟨_, he, ⟨d, rfl, _, hd, fun k h1 h2 => ⟨h1, Nat.lt_of_lt_of_le h2 hB.size⟩⟩, hb⟩)
      · intro a w' hF hB hd
        exact doesL_val rfl (ex_build rfl (by kernel_rfl)) rfl
      · intro a w' hF hB hd
        have e3 : a.eval (.tmp 3) = .pointer (some ⟨w.heap.size, 0, none⟩) := hF 3 (by decide +kernel)
        exact doesL_val rfl (ex_load_part 23 (.tmp 3) rfl w.heap.size 0 e3 KC _ ((K4.out.below hB K4.out.lt).range) Tryz.underlying23 rfl (by rw [KC32.out]; exact infoKeyP)) rfl
      · intro a w' hF hB hd
        obtain ⟨d, e37, A, hdv, hA⟩ : ∃ d, a.eval (.tmp 37) = .pointer (some ⟨d, 0, none⟩) ∧ ∃ A, Dev w.heap.size A w' d S0 ∧ (∀ k, w.heap.size ≤ k → k < w4.heap.size → A k) := hd 0 (by decide +kernel)
        have e38 : a.eval (.tmp 38) = .agg #[.int .i64 8, .int .i64 1] := hd 1 (by decide +kernel)
        have e39 : a.eval (.tmp 39) = .agg KC.toArray := hd 2 (by decide +kernel)
        exact doesL_call rfl (ex_call (vs := #[.pointer (some ⟨d, 0, none⟩), .agg #[.int .i64 8, .int .i64 1], .agg KC.toArray]) rfl (by simp only [List.map_toArray, List.map_cons, List.map_nil, e37, e38, e39]) (by go_simp)) ((HNW.out w' d (W4.out.on hB)).mono fun e w3 hh => by obtain ⟨s, he, hs, hb⟩ := hh; exact ⟨_, he, ⟨s, rfl, d, _, laid_new hdv (HT.out.below (W4.out.on hB)) hs hb, fun k h1 h2 => .inl (hA k h1 h2)⟩, hb⟩)
    · intro vs w5 hB hv
      obtain ⟨s, e40, d, A5, hl, hA⟩ : ∃ s, vs 3 = .pointer (some ⟨s, 0, none⟩) ∧ ∃ d A, Laid w.heap.size w5 s d p A S0 ∧ (∀ k, w.heap.size ≤ k → k < w4.heap.size → A k) := hv 3 (by decide)
      simp only [List.take_succ_cons, List.take_zero, List.drop_succ_cons, List.drop_zero, putOps, Act.put, List.setIfInBounds_toArray, List.set_cons_zero, List.set_cons_succ, e40]
      have L5 := Lib.hid hl
      have W5 := Lib.hid (W4.out.on hB)
      have N5 := Lib.hid (N4.out.below hB N4.out.lt)
      have D5 := Lib.hid (O4.out.below hB)
      have MD5 := Lib.hid (fun (_ : 0 < D.length) g e => (show g < w.heap.size ∨ A5 g from .inr (hA g (Nat.le_trans W1.out.size (OB.out g e).1) (OB.out g e).2)))
      have B5 := Lib.hid (HRB.out.below W5.out)
      have MB5 := Lib.hid (fun (h : 0 < b.length) g e => (show g < w.heap.size ∨ A5 g from .inl (HRB.out.in_ h g e)))
      clear hv e40 hB hl hA
      generalize vs 0 = z0
      generalize vs 1 = z1
      generalize vs 2 = z2
      go_upto_region 4 with fail
      refine wp_region_l (by kernel_rfl) 9 (by decide) (by kernel_rfl) (by kernel_rfl) (by kernel_rfl) [.val (.pointer (some ⟨(w.heap.size + 1), 0, none⟩)), .val (.int .u8 (n0 : Int)), .val (.int .u8 (k0 : Int)), .val (.int .u32 (k0 : Int)), .val (.pointer (some ⟨(w.heap.size + 1), 1, none⟩)), .val (.int .u8 (n1 : Int)), .val (.int .u8 (k1 : Int)), .val (.int .u32 (k1 : Int)), .val (.int .u32 (k0 : Int))] ?_ ?_
      · refine ⟨?_, ?_, ?_, ?_, ?_, ?_, ?_, ?_, ?_, trivial⟩
        · intro a w' hF hB hd
          have e4 : a.eval (.tmp 4) = .pointer (some ⟨(w.heap.size + 1), 0, none⟩) := hF 4 (by decide +kernel)
          exact doesL_val rfl (v := .pointer (some ⟨(w.heap.size + 1), 0, none⟩)) (by unfold execOp; simp only [e4]; go_simp) rfl
        · intro a w' hF hB hd
          have e41 : a.eval (.tmp 41) = .pointer (some ⟨(w.heap.size + 1), 0, none⟩) := hd 0 (by decide +kernel)
          have cc := (N5.out.below hB N5.out.lt).cell 0 _ rfl
          exact doesL_val rfl (v := .int .u8 (n0 : Int)) (by unfold execOp; simp only [e41]; go_simp) rfl
        · intro a w' hF hB hd
          have e42 : a.eval (.tmp 42) = .int .u8 (n0 : Int) := hd 1 (by decide +kernel)
          exact doesL_val rfl (ex_binOp rfl e42 rfl (by go_simp) (by obtain ⟨ha, ha2⟩ := Hk0.out; go_simp)) rfl
        · intro a w' hF hB hd
          have e43 : a.eval (.tmp 43) = .int .u8 (k0 : Int) := hd 2 (by decide +kernel)
          have hw := HWk0.out
          exact doesL_val rfl (v := .int .u32 (k0 : Int)) (by unfold execOp; simp only [e43]; go_simp) rfl
        · intro a w' hF hB hd
          have e4 : a.eval (.tmp 4) = .pointer (some ⟨(w.heap.size + 1), 0, none⟩) := hF 4 (by decide +kernel)
          exact doesL_val rfl (v := .pointer (some ⟨(w.heap.size + 1), 1, none⟩)) (by unfold execOp; simp only [e4]; go_simp) rfl
        · intro a w' hF hB hd
          have e45 : a.eval (.tmp 45) = .pointer (some ⟨(w.heap.size + 1), 1, none⟩) := hd 4 (by decide +kernel)
          have cc := (N5.out.below hB N5.out.lt).cell 1 _ rfl
          exact doesL_val rfl (v := .int .u8 (n1 : Int)) (by unfold execOp; simp only [e45]; go_simp) rfl
        · intro a w' hF hB hd
          have e46 : a.eval (.tmp 46) = .int .u8 (n1 : Int) := hd 5 (by decide +kernel)
          exact doesL_val rfl (ex_binOp rfl e46 rfl (by go_simp) (by obtain ⟨ha, ha2⟩ := Hk1.out; go_simp)) rfl
        · intro a w' hF hB hd
          have e47 : a.eval (.tmp 47) = .int .u8 (k1 : Int) := hd 6 (by decide +kernel)
          have hw := HWk1.out
          exact doesL_val rfl (v := .int .u32 (k1 : Int)) (by unfold execOp; simp only [e47]; go_simp) rfl
        · intro a w' hF hB hd
          have e44 : a.eval (.tmp 44) = .int .u32 (k0 : Int) := hd 3 (by decide +kernel)
          exact doesL_val rfl (ex_assign rfl e44) rfl
      · intro vs w6 hB hv
        have e48 : vs 7 = .int .u32 (k1 : Int) := hv 7 (by decide)
        have e9 : vs 8 = .int .u32 (k0 : Int) := hv 8 (by decide)
        simp only [List.take_succ_cons, List.take_zero, List.drop_succ_cons, List.drop_zero, putOps, Act.put, List.setIfInBounds_toArray, List.set_cons_zero, List.set_cons_succ, e48, e9]
        have L6 := Lib.hid (L5.out.below hB)
        have W6 := Lib.hid (W5.out.on hB)
        have D6 := Lib.hid (D5.out.below hB)
        have MD6 := MD5
        have B6 := Lib.hid (B5.out.below hB)
        have MB6 := MB5
        clear hv e48 e9 hB
        generalize vs 0 = u0
        generalize vs 1 = u1
        generalize vs 2 = u2
        generalize vs 3 = u3
        generalize vs 4 = u4
        generalize vs 5 = u5
        generalize vs 6 = u6
        go_wp2_with (first
          | (go_at_call 17; (with_reducible refine (H1.out w6 s d _ L6.out (.slice da D.length dc) D6.out).mono ?_); rintro e w7 ⟨rfl, ll, kk⟩; have L7 := Lib.hid ll; have D7 := Lib.hid (D6.out.kept0 kk MD6.out); have MD7 := MD6; have B7 := Lib.hid (B6.out.kept0 kk MB6.out); have MB7 := MB6; have W7 := Lib.hid (kk.below W6.out W6.out.size); clear kk ll)
          | ((with_reducible show wpList _ _ _ (Oper.mk _ (.store _ (.tmp 11) (.tmp 54)) _ _ _ _ :: _) _ _); refine wpList_store_blk rfl 49 (.tmp 11) (.tmp 54) rfl w7.heap.size 0 RC rfl rfl 49 RZ (Blk.new w7 49 RZ _ rfl) (by have := RC33.out; have := RZ33.out; omega) (by rw [RC33.out]; exact infoRfQ) RC1.out ?_; intro w8 b' g'; rw [splice_all _ _ (by rw [RC33.out, RZ33.out])] at b'; have bb := alloc_turn (Below.refl _ _) g'; have D8 := Lib.hid (D7.out.below bb); have B8 := Lib.hid (B7.out.below bb); have W8 := Lib.hid (W7.out.on bb); obtain ⟨A8, l', i', n'⟩ := L7.out.own2 bb; have L8 := Lib.hid l'; have MD8 := Lib.hid (fun h g e => (MD7.out h g e).imp_right (i' g)); have MB8 := Lib.hid (fun h g e => (MB7.out h g e).imp_right (i' g)); have X8 := Lib.hid (b'); have MX8 := Lib.hid (n' _ (Nat.le_refl _) b'.lt); clear bb l' i' n'; clear b' g'; obtain ⟨rX, hrX⟩ : ∃ x, x = w7.heap.size := ⟨_, rfl⟩; rw [← hrX] at X8 MX8 ⊢; clear hrX)
          | (go_at_call 19; (with_reducible refine (H2.out w8 s d _ L8.out (.slice ao m cap) B8.out).mono ?_); rintro e w9 ⟨rfl, ll, kk⟩; have L9 := Lib.hid ll; have D9 := Lib.hid (D8.out.kept0 kk MD8.out); have MD9 := MD8; have B9 := Lib.hid (B8.out.kept0 kk MB8.out); have MB9 := MB8; have X9 := Lib.hid (X8.out.kept kk (.inr MX8.out)); have MX9 := MX8; have W9 := Lib.hid (kk.below W8.out W8.out.size); clear kk ll)
          | ((with_reducible show wpList _ _ _ (Oper.mk _ (.store _ (.tmp 13) (.tmp 70)) _ _ _ _ :: _) _ _); refine wpList_store_blk rfl 49 (.tmp 13) (.tmp 70) rfl w9.heap.size 0 PC2 rfl rfl 49 RZ (Blk.new w9 49 RZ _ rfl) (by have := PC233.out; have := RZ33.out; omega) (by rw [PC233.out]; exact infoRfQ) PC21.out ?_; intro w10 b' g'; rw [splice_all _ _ (by rw [PC233.out, RZ33.out])] at b'; have bb := alloc_turn (Below.refl _ _) g'; have D10 := Lib.hid (D9.out.below bb); have B10 := Lib.hid (B9.out.below bb); have X10 := Lib.hid (X9.out.below bb X9.out.lt); have W10 := Lib.hid (W9.out.on bb); obtain ⟨A10, l', i', n'⟩ := L9.out.own2 bb; have L10 := Lib.hid l'; have MD10 := Lib.hid (fun h g e => (MD9.out h g e).imp_right (i' g)); have MB10 := Lib.hid (fun h g e => (MB9.out h g e).imp_right (i' g)); have MX10 := Lib.hid (i' _ MX9.out); clear bb l' i' n'; clear b' g')
          | ((with_reducible show wpList _ _ _ (Oper.mk (some 76) (.load _ (.tmp 11)) _ _ _ _ :: _) _ _); refine wpList_load_wanted rfl 49 (.tmp 11) rfl rX 0 rfl RC _ X10.out.range Tryz.underlying49 rfl (by rw [RC33.out]; exact infoRfQ) ?_)
          | (go_at_call 14; (with_reducible refine (H3.out w10 s d _ L10.out).mono ?_); rintro e w11 ⟨y, rfl, ry, ny, bb⟩; obtain ⟨Ya, Yc, rfl, _⟩ := ry.shape; have D11 := Lib.hid (D10.out.below bb); have B11 := Lib.hid (B10.out.below bb); have X11 := Lib.hid (X10.out.below bb X10.out.lt); have W11 := Lib.hid (W10.out.on bb); obtain ⟨A11, l', i', n'⟩ := L10.out.own2 bb; have L11 := Lib.hid l'; have MD11 := Lib.hid (fun h g e => (MD10.out h g e).imp_right (i' g)); have MB11 := Lib.hid (fun h g e => (MB10.out h g e).imp_right (i' g)); have MX11 := Lib.hid (i' _ MX10.out); have Y11 := Lib.hid (ry); have MY11 := Lib.hid (fun h g e => (Or.inr (n' g (ny g e) (ry.in_ h g e)) : g < w.heap.size ∨ A11 g)); clear bb l' i' n'; clear ry ny)
          | (go_at_call 19; (with_reducible refine (H4.out w11 s d _ L11.out (.slice ao m cap) B11.out).mono ?_); rintro e w12 ⟨rfl, ll, kk⟩; have L12 := Lib.hid ll; have D12 := Lib.hid (D11.out.kept0 kk MD11.out); have MD12 := MD11; have B12 := Lib.hid (B11.out.kept0 kk MB11.out); have MB12 := MB11; have X12 := Lib.hid (X11.out.kept kk (.inr MX11.out)); have MX12 := MX11; have Y12 := Lib.hid (Y11.out.kept0 kk MY11.out); have MY12 := MY11; have W12 := Lib.hid (kk.below W11.out W11.out.size); clear kk ll)
          | ((with_reducible show wpList _ _ _ (Oper.mk _ (.store _ (.tmp 17) (.tmp 84)) _ _ _ _ :: _) _ _); refine wpList_store_blk rfl 49 (.tmp 17) (.tmp 84) rfl w12.heap.size 0 PC rfl rfl 49 RZ (Blk.new w12 49 RZ _ rfl) (by have := PC33.out; have := RZ33.out; omega) (by rw [PC33.out]; exact infoRfQ) PC1.out ?_; intro w13 b' g'; rw [splice_all _ _ (by rw [PC33.out, RZ33.out])] at b'; have bb := alloc_turn (Below.refl _ _) g'; have D13 := Lib.hid (D12.out.below bb); have B13 := Lib.hid (B12.out.below bb); have X13 := Lib.hid (X12.out.below bb X12.out.lt); have Y13 := Lib.hid (Y12.out.below bb); have W13 := Lib.hid (W12.out.on bb); obtain ⟨A13, l', i', n'⟩ := L12.out.own2 bb; have L13 := Lib.hid l'; have MD13 := Lib.hid (fun h g e => (MD12.out h g e).imp_right (i' g)); have MB13 := Lib.hid (fun h g e => (MB12.out h g e).imp_right (i' g)); have MX13 := Lib.hid (i' _ MX12.out); have MY13 := Lib.hid (fun h g e => (MY12.out h g e).imp_right (i' g)); have P13 := Lib.hid (b'); have MP13 := Lib.hid (n' _ (Nat.le_refl _) b'.lt); clear bb l' i' n'; clear b' g'; obtain ⟨rP, hrP⟩ : ∃ x, x = w12.heap.size := ⟨_, rfl⟩; rw [← hrP] at P13 MP13 ⊢; clear hrP)
          | ((with_reducible show wpList _ _ _ (Oper.mk (some 88) (.load _ (.tmp 17)) _ _ _ _ :: _) _ _); refine wpList_load_wanted rfl 49 (.tmp 17) rfl rP 0 rfl PC _ P13.out.range Tryz.underlying49 rfl (by rw [PC33.out]; exact infoRfQ) ?_)
          | (go_at_call 16; (with_reducible refine (H5.out w13 s d _ L13.out).mono ?_); rintro e w14 ⟨y, rfl, oy, bb⟩; have ry := oy.rd; have ny : NewB _ y := fun g e => (oy.from g e).1; clear oy; obtain ⟨Va, Vc, rfl, _⟩ := ry.shape; have D14 := Lib.hid (D13.out.below bb); have B14 := Lib.hid (B13.out.below bb); have X14 := Lib.hid (X13.out.below bb X13.out.lt); have Y14 := Lib.hid (Y13.out.below bb); have P14 := Lib.hid (P13.out.below bb P13.out.lt); have W14 := Lib.hid (W13.out.on bb); obtain ⟨A14, l', i', n'⟩ := L13.out.own2 bb; have L14 := Lib.hid l'; have MD14 := Lib.hid (fun h g e => (MD13.out h g e).imp_right (i' g)); have MB14 := Lib.hid (fun h g e => (MB13.out h g e).imp_right (i' g)); have MX14 := Lib.hid (i' _ MX13.out); have MY14 := Lib.hid (fun h g e => (MY13.out h g e).imp_right (i' g)); have MP14 := Lib.hid (i' _ MP13.out); have V14 := Lib.hid (ry); have MV14 := Lib.hid (fun h g e => (Or.inr (n' g (ny g e) (ry.in_ h g e)) : g < w.heap.size ∨ A14 g)); clear bb l' i' n'; clear ry ny)
          | ((with_reducible show wpList _ _ _ (Oper.mk (some 94) (.build _ _) _ _ _ _ :: _) _ _); refine wpList_wanted rfl (.agg R7.toArray) (ex_build rfl (by simp only [List.map_toArray, List.map_cons, List.map_nil]; exact HB7.out)) ?_)
          | ((with_reducible show wpList _ _ _ (Oper.mk (some 95) (.build _ _) _ _ _ _ :: _) _ _); refine wpList_wanted rfl (.agg XC.toArray) (ex_build rfl (by simp only [List.map_toArray, List.map_cons, List.map_nil]; exact HB51.out)) ?_)
          | (go_at_call 18; (with_reducible refine (H6.out w14 s d _ L14.out).mono ?_); rintro e w15 ⟨rfl, ll, kk⟩; have L15 := Lib.hid ll; have D15 := Lib.hid (D14.out.kept0 kk MD14.out); have MD15 := MD14; have B15 := Lib.hid (B14.out.kept0 kk MB14.out); have MB15 := MB14; have X15 := Lib.hid (X14.out.kept kk (.inr MX14.out)); have MX15 := MX14; have Y15 := Lib.hid (Y14.out.kept0 kk MY14.out); have MY15 := MY14; have P15 := Lib.hid (P14.out.kept kk (.inr MP14.out)); have MP15 := MP14; have V15 := Lib.hid (V14.out.kept0 kk MV14.out); have MV15 := MV14; have W15 := Lib.hid (kk.below W14.out W14.out.size); clear kk ll)
          | ((with_reducible show wpList _ _ _ (Oper.mk _ (.store _ (.tmp 21) (.tmp 97)) _ _ _ _ :: _) _ _); refine wpList_store_blk rfl 49 (.tmp 21) (.tmp 97) rfl w15.heap.size 0 NC rfl rfl 49 RZ (Blk.new w15 49 RZ _ rfl) (by have := NC33.out; have := RZ33.out; omega) (by rw [NC33.out]; exact infoRfQ) NC1.out ?_; intro w16 b' g'; rw [splice_all _ _ (by rw [NC33.out, RZ33.out])] at b'; have bb := alloc_turn (Below.refl _ _) g'; have D16 := Lib.hid (D15.out.below bb); have B16 := Lib.hid (B15.out.below bb); have X16 := Lib.hid (X15.out.below bb X15.out.lt); have Y16 := Lib.hid (Y15.out.below bb); have P16 := Lib.hid (P15.out.below bb P15.out.lt); have V16 := Lib.hid (V15.out.below bb); have W16 := Lib.hid (W15.out.on bb); obtain ⟨A16, l', i', n'⟩ := L15.out.own2 bb; have L16 := Lib.hid l'; have MD16 := Lib.hid (fun h g e => (MD15.out h g e).imp_right (i' g)); have MB16 := Lib.hid (fun h g e => (MB15.out h g e).imp_right (i' g)); have MX16 := Lib.hid (i' _ MX15.out); have MY16 := Lib.hid (fun h g e => (MY15.out h g e).imp_right (i' g)); have MP16 := Lib.hid (i' _ MP15.out); have MV16 := Lib.hid (fun h g e => (MV15.out h g e).imp_right (i' g)); have Q16 := Lib.hid (b'); have MQ16 := Lib.hid (n' _ (Nat.le_refl _) b'.lt); clear bb l' i' n'; clear b' g'; obtain ⟨rQ, hrQ⟩ : ∃ x, x = w15.heap.size := ⟨_, rfl⟩; rw [← hrQ] at Q16 MQ16 ⊢; clear hrQ)
          | ((with_reducible show wpList _ _ _ (Oper.mk (some 101) (.load _ (.tmp 21)) _ _ _ _ :: _) _ _); refine wpList_load_wanted rfl 49 (.tmp 21) rfl rQ 0 rfl NC _ Q16.out.range Tryz.underlying49 rfl (by rw [NC33.out]; exact infoRfQ) ?_)
          | (go_at_call 15; (with_reducible refine (H7.out w16 s d _ L16.out).mono ?_); rintro e w17 ⟨rfl, bb⟩; have D17 := Lib.hid (D16.out.below bb); have B17 := Lib.hid (B16.out.below bb); have X17 := Lib.hid (X16.out.below bb X16.out.lt); have Y17 := Lib.hid (Y16.out.below bb); have P17 := Lib.hid (P16.out.below bb P16.out.lt); have V17 := Lib.hid (V16.out.below bb); have Q17 := Lib.hid (Q16.out.below bb Q16.out.lt); have W17 := Lib.hid (W16.out.on bb); obtain ⟨A17, l', i', n'⟩ := L16.out.own2 bb; have L17 := Lib.hid l'; have MD17 := Lib.hid (fun h g e => (MD16.out h g e).imp_right (i' g)); have MB17 := Lib.hid (fun h g e => (MB16.out h g e).imp_right (i' g)); have MX17 := Lib.hid (i' _ MX16.out); have MY17 := Lib.hid (fun h g e => (MY16.out h g e).imp_right (i' g)); have MP17 := Lib.hid (i' _ MP16.out); have MV17 := Lib.hid (fun h g e => (MV16.out h g e).imp_right (i' g)); have MQ17 := Lib.hid (i' _ MQ16.out); clear bb l' i' n')
          | ((with_reducible show wpList _ _ _ (Oper.mk _ (.store _ (.tmp 23) (.tmp 103)) _ _ _ _ :: _) _ _); refine wpList_store_blk rfl 51 (.tmp 23) (.tmp 103) rfl w17.heap.size 0 XC rfl rfl 51 ZN (Blk.new w17 51 ZN _ rfl) (by have := XC264.out; have := ZN264.out; omega) (by rw [XC264.out]; exact infoNdP) XC1.out ?_; intro w18 b' g'; rw [splice_all _ _ (by rw [XC264.out, ZN264.out])] at b'; have bb := alloc_turn (Below.refl _ _) g'; have D18 := Lib.hid (D17.out.below bb); have B18 := Lib.hid (B17.out.below bb); have X18 := Lib.hid (X17.out.below bb X17.out.lt); have Y18 := Lib.hid (Y17.out.below bb); have P18 := Lib.hid (P17.out.below bb P17.out.lt); have V18 := Lib.hid (V17.out.below bb); have Q18 := Lib.hid (Q17.out.below bb Q17.out.lt); have W18 := Lib.hid (W17.out.on bb); obtain ⟨A18, l', i', n'⟩ := L17.out.own2 bb; have L18 := Lib.hid l'; have MD18 := Lib.hid (fun h g e => (MD17.out h g e).imp_right (i' g)); have MB18 := Lib.hid (fun h g e => (MB17.out h g e).imp_right (i' g)); have MX18 := Lib.hid (i' _ MX17.out); have MY18 := Lib.hid (fun h g e => (MY17.out h g e).imp_right (i' g)); have MP18 := Lib.hid (i' _ MP17.out); have MV18 := Lib.hid (fun h g e => (MV17.out h g e).imp_right (i' g)); have MQ18 := Lib.hid (i' _ MQ17.out); have Z18 := Lib.hid (b'); have MZ18 := Lib.hid (n' _ (Nat.le_refl _) b'.lt); clear bb l' i' n'; clear b' g'; obtain ⟨rZ, hrZ⟩ : ∃ x, x = w17.heap.size := ⟨_, rfl⟩; rw [← hrZ] at Z18 MZ18 ⊢; clear hrZ; have hs1 := Y18.out.str; have hs2 := V18.out.str; have hs3 := D18.out.str)
          | ((with_reducible show wpList _ _ _ (Oper.mk (some 138) (.load _ (.tmp 23)) _ _ _ _ :: _) _ _); refine wpList_load_wanted rfl 51 (.tmp 23) rfl rZ 0 rfl XC _ Z18.out.range Tryz.underlying51 rfl (by rw [XC264.out]; exact infoNdP) ?_)
          | ((with_reducible show wpList _ _ _ (Oper.mk (some 139) (.build _ _) _ _ _ _ :: _) _ _); refine wpList_wanted rfl (.agg R7.toArray) (ex_build rfl (by simp only [List.map_toArray, List.map_cons, List.map_nil]; exact HB7.out)) ?_)
          | ((with_reducible show wpList _ _ _ (Oper.mk (some 140) (.build _ _) _ _ _ _ :: _) _ _); refine wpList_wanted rfl (.agg XC.toArray) (ex_build rfl (by simp only [List.map_toArray, List.map_cons, List.map_nil]; exact HB51.out)) ?_)
          | ((with_reducible show wpList _ _ _ (Oper.mk (some 141) (.binOp _ _ _ _ _) _ _ _ _ :: _) _ _); refine wpList_wanted rfl (.bool true) (ex_binOp (x := .tmp 138) (y := .tmp 140) (b := .eql) (t := 51) rfl rfl rfl (run_eqGuard_agg _ _ _ _ _ _ _ eqTypeNd) (HNQ.out _)) ?_)
          | (go_at_call 8; (with_reducible refine (HAW.out _ W18.out).mono ?_); rintro e w99 ⟨rfl, bb⟩; have W99 := Lib.hid (W18.out.on bb); clear bb))
        go_ret
        exact ⟨rfl, W99.out⟩
set_option maxRecDepth 100000 in
theorem reads (os : Os) {H : Type} (enc : TypeId × Value → H) : ∃ places, DataW.whole enc Tryz.prog ((World.doorLaid Tryz.prog 400 os).forCall (fun _ _ => 0) ⟨#[], #[.agg (row8 (List.replicate 32 0)).toArray, .agg (row8 (List.replicate 2 0)).toArray, .slice none 0 0], []⟩).memory Tryz.f5.params.toList Rows.spaceBackSpec.vars false (#[.agg (row8 (List.replicate 32 0)).toArray, .agg (row8 (List.replicate 2 0)).toArray, .slice none 0 0] : Array Value).toList 8 = some ([lit8 (List.replicate 32 0), lit8 (List.replicate 2 0), .nil], [], places) :=
  ⟨[], by kernel_rfl⟩
set_option linter.unusedVariables false in
set_option maxHeartbeats 1000000 in
set_option maxRecDepth 100000 in
theorem lifted (os : Os) (started : os.Started) (H : Type) (enc : TypeId × Value → H) (F : Stop.Interp) :
    ReturnsInHanded {} Tryz.checked os 5 .any ((OpenSpec.ofChange Rows.spaceBackSpec).preRow enc Tryz.prog Tryz.f5 Rows.spaceBackRow.domain false laidXUPs) (((OpenSpec.ofChange Rows.spaceBackSpec).at F).post enc Tryz.prog Tryz.f5 false true false false) := by
  obtain ⟨places, hx⟩ := reads os enc
  refine returnsInHanded_of_row (C := Tryz.checked) (s := OpenSpec.ofChange Rows.spaceBackSpec) own started (by kernel_rfl) Tryz.func5
    (witness_row_atRef (enc := enc) (C := Tryz.checked) false (World.doorLaid Tryz.prog 400 os) #[.agg (row8 (List.replicate 32 0)).toArray, .agg (row8 (List.replicate 2 0)).toArray, .slice none 0 0] rfl (by kernel_rfl) (by kernel_rfl) (by kernel_rfl)
      (OpenSpec.preRow_of_cond 8 hx (by kernel_rfl) (fun k hk => by cases hk) (by kernel_rfl) (doorXUPs_met os _))) ?_
  intro W base args ds gs before hval0 hW _ hcond hsz0 hL _ _
  have hsz : (DataW.weightsEach Tryz.prog (Tryz.f5.params.toList ++ Rows.spaceBackSpec.plain.varTypes Tryz.prog) (ds ++ gs)).all (· ≤ reachBytes) = true := hsz0
  clear hsz0
  have hval : ∀ (j : Nat) t v, Tryz.f5.params[j]? = some t → args[j]? = some v → Value.okWide Tryz.prog W .any base t v := hval0
  have hW' := hW
  obtain ⟨p, q, hA0, hV, rfl, _, _⟩ := hW
  have hA : DataW.TrodAll enc Tryz.prog W 0 (fun _ => true) true Tryz.f5.params.toList args.toList ds p := hA0
  rw [Tryz.params5] at hA hval hsz
  obtain ⟨v0, vs0, d0, ds0, p0, q0, hargs, rfl, rfl, g0, r0⟩ := trodAll_cons hA
  obtain ⟨v1, vs1, d1, ds1, p1, q1, rfl, rfl, rfl, g1, r1⟩ := trodAll_cons r0
  obtain ⟨v2, vs2, d2, ds2, p2, q2, rfl, rfl, rfl, g2, r2⟩ := trodAll_cons r1
  obtain ⟨rfl, rfl, rfl⟩ := trodAll_nil r2
  obtain rfl : args = #[v0, v1, v2] := by cases args; simp_all
  obtain ⟨rfl, rfl⟩ := trodVars_none hV
  obtain ⟨l0, h0, rfl, rfl, rfl⟩ := open_row Tryz.underlying23 Tryz.underlying5 cells5 (hval 0 23 v0 rfl rfl) cells23 g0
  obtain ⟨l1, h1, rfl, rfl, rfl⟩ := open_row Tryz.underlying67 Tryz.underlying5 cells5 (hval 1 67 v1 rfl rfl) cells67 g1
  obtain ⟨l2, h2⟩ := open_bytes (hval 2 46 v2 rfl rfl) g2 (fun elems spare e => sized_slice hsz (j := 2) (t := 46) (e := 5) rfl (by rw [← e]; rfl) Tryz.underlying46)
  clear hA0 hval0
  have hlt := hW'.lt
  refine (walk W (tabsXUPs_of_laid hL) l0 h0 l1 h1 v2 l2 h2).mono fun e W' ⟨he, hb⟩ => ?_
  subst he
  have hargs : DataW.TrodAll enc Tryz.prog W' 0 (fun b => decide (b < W.heap.size)) true _ _ _ _ := (trodAll_cons_mk (shut_row Tryz.underlying23 Tryz.underlying5 cells5 cells23 h0) (trodAll_cons_mk (shut_row Tryz.underlying67 Tryz.underlying5 cells5 cells67 h1) (trodAll_cons_mk (Below.trod laidOut (by kernel_rfl) (of_decide_eq_true (by kernel_rfl)) g2 hb (fun x hx => hlt x (by simp [hx]))) trodAll_mk0)))
  simp only [List.append_nil] at hW' hargs
  exact ⟨_, rfl, post_law hW' (trodAll_cons_mk (shut_bool Tryz.underlying4 _) trodAll_mk0) hargs rfl hb⟩
theorem over : Rows.spaceBackRow.holds Tryz.pinned (OpenSpec.ofChange Rows.spaceBackSpec) :=
  OpenClaim.holds_of_cond 5 Tryz.f5 rfl rfl rfl rfl rfl rfl rfl ⟨rfl, rfl, rfl, rfl, rfl⟩ rfl rfl rfl rfl rfl (by kernel_rfl) Tryz.func5 (by kernel_rfl)
    (of_decide_eq_true (by kernel_rfl)) (by unfold Func.isWrapper; first | (rw [if_pos (by decide +kernel)]; kernel_rfl) | (rw [if_neg (by decide +kernel)]; exact ⟨rfl, rfl⟩))
    (fun os started H enc _ F => by rw [OpenClaim.pre_eq_preRow]; exact lifted os started H enc F)

/-- The given statement. -/
theorem proved : Rows.SpaceBackCardSaid :=
  Claim7.holds_tied_plain_at .later [] _ _ _ _
    over (fun _ h => by cases h) (by kernel_rfl) (fun _ h => by cases h) spaceBack_row_tie rfl ⟨rfl, rfl⟩ (by kernel_rfl) rfl
    (fun f fn hf hfn => by
      obtain rfl : f = 5 := Option.some.inj ((show Tryz.prog.funcNamed "reliquary/reliquarylaw16.SpaceBack" = some 5 by kernel_rfl).symm.trans hf) |>.symm
      obtain rfl : fn = Tryz.f5 := (Option.some.inj (Tryz.func5.symm.trans hfn)).symm
      exact ⟨by kernel_rfl, fun j t ht => by
        rw [Tryz.params5] at ht
        have hm : t ∈ [23, 67, 46] := by simpa using Array.mem_of_getElem? ht
        have hall : ([23, 67, 46].all fun u => !Tryz.prog.wantsStandIn u) = true := by kernel_rfl
        exact (show Tryz.prog.wantsStandIn t = false by simpa using List.all_eq_true.1 hall t hm)⟩)
    (by kernel_rfl)
end Go.Proofs.YthmkpekeghcifaaGreatDoor.spaceBack
