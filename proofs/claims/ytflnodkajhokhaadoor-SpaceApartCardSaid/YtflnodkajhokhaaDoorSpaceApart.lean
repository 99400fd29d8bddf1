/- SpaceApart: a cluster that is laid changes no byte outside its place (a page, a node, data), whatever stands there; and the law's closed case holds. No condition but that the listed tables hold what they hold when the call begins. -/
import Derived.Test.YtflnodkajhokhaaDoorRows
import Derived.Test.YtflnodkajhokhaaDoorMa12
import Derived.BigQuiet
import Derived.Test.YtflnodkajhokhaaDoorTie
import Derived.Test.YtflnodkajhokhaaDoorCards
import Derived.SevenTiedAt
import Derived.Test.YtflnodkajhokhaaDoorMa0
import Derived.WalkKit
import Derived.ProofKit
import Derived.OpenShut
import Derived.SizedLaws
import Derived.Carry
import Derived.Deep.DeepHandedRow
import Derived.Deep.DeepWitnessRowRef
namespace Go.Proofs.YtflnodkajhokhaaDoor.spaceApart
open Go.ChangeShapes Go.WideShapes Go.ChangeAt Go.RowKit
open RT XM AM SM
theorem addr_at0 (u k : Nat) : (⟨u, 0, none⟩ : Addr).add k = ⟨u, k, none⟩ := by
  unfold Addr.add
  split
  . next h => rw [h]
  . simp
theorem rd_cell0 {w : World} {u n c : Nat} {l : List Nat} (h : Rd w (.slice (some ⟨u, 0, none⟩) n c) l) {j : Nat} (hj : j < l.length) : w.cell? ⟨u, j, none⟩ = some (.int .u8 ((gb l j : Nat) : Int)) := by
  obtain ⟨ad, e, hc⟩ := h.at_ j hj
  obtain rfl := Option.some.inj e
  rwa [addr_at0] at hc
theorem built_zn : Tryd.prog.built 43 [] = some (pcs ND.zn).toArray := by kernel_rfl
theorem ex_min_at {o : Oper} {a : Act} {w : World} {x : Operand} {ts : Array TypeId} {L : Nat} (ho : o.op = .call { callee := .builtin .min, args := #[x, .const (.int .i64 512)], argTypes := ts }) (hx : a.eval x = .int .i64 (L : Int)) : (execOp a.eval o).run Tryd.prog w = .ok (.value (.int .i64 ((min L 512 : Nat) : Int))) w := by
  have q := ex_min (P := Tryd.prog) (w := w) (k := .i64) (u := (L : Int)) (v := 512) ho hx rfl
  rw [q]
  congr 3
  congr 1
  omega
theorem own : ownKnob Tryd.prog.godebug = none := by kernel_rfl
theorem cells23 : Tryd.prog.cellsOf 23 = 32 := by kernel_rfl
theorem cells24 : Tryd.prog.cellsOf 24 = 2 := by kernel_rfl
theorem cells5 : Tryd.prog.cellsOf 5 = 1 := by kernel_rfl
set_option linter.unusedVariables false in
set_option maxHeartbeats 16000000 in
set_option maxRecDepth 100000 in
theorem walk (w : World) (ht : TabX w /\ TabU w /\ TabP w) (l0 : List Nat) (h0 : Bytes 32 l0) (l1 : List Nat) (h1 : Bytes 2 l1) (v2 : Value) (l2 : List Nat) (h2 : Rd w v2 l2) :
    Calls Tryd.prog 3 #[.agg (row8 l0).toArray, .agg (row8 l1).toArray, v2] w fun e w' => e = .returned (.bool true) /\ Below w.heap.size w w' := by
  obtain ⟨tx, tu, tp⟩ := ht
  have HAW := Lib.hid (fun W (hW : Below w.heap.size w W) => spawake_any W (tx.below hW) (tu.below hW) (tp.below hW))
  have HT := Lib.hid (PTabs.start tx tu tp)
  have HB := Lib.hid (fun W (hW : Below w.heap.size w W) => begun_any w.heap.size W hW.size)
  obtain ⟨n0, n1, rfl⟩ : ∃ a b, l1 = [a, b] := by
    match l1, h1.1 with
    | [a, b], _ => exact ⟨a, b, rfl⟩
  have hn0 : n0 < 256 := h1.2 0
  have hn1 : n1 < 256 := h1.2 1
  obtain ⟨k0, hk0⟩ : ∃ k, k = n0 % 20 := ⟨_, rfl⟩
  obtain ⟨c1, hk1⟩ : ∃ k, k = n1 % 3 := ⟨_, rfl⟩
  have hl0 : k0 < 20 := by omega
  have HCC := Lib.hid (show c1 = 0 \/ c1 = 1 \/ c1 = 2 by omega)
  have Hk0 := (show (n0 : Int) % 20 = (k0 : Int) /\ (n0 : Int).tmod 20 = (k0 : Int) by rw [Int.tmod_eq_emod_of_nonneg (by omega)]; omega)
  have Hc1 := Lib.hid (show (n1 : Int) % 3 = (c1 : Int) /\ (n1 : Int).tmod 3 = (c1 : Int) by rw [Int.tmod_eq_emod_of_nonneg (by omega)]; omega)
  obtain ⟨hk0a, hk0b⟩ := Hk0
  have HWk0 := (show IntKind.u32.wrap (k0 : Int) = (k0 : Int) by rw [IntKind.wrap_u32]; omega)
  have HWq0 := (show IntKind.i64.wrap (k0 : Int) = (k0 : Int) by rw [IntKind.wrap_i64]; omega)
  obtain ⟨q1, hq1⟩ : ∃ q, q = 512 * k0 := ⟨_, rfl⟩
  obtain ⟨q2, hq2⟩ : ∃ q, q = 4096 + q1 := ⟨_, rfl⟩
  obtain ⟨q3, hq3⟩ : ∃ q, q = 4608 + q1 := ⟨_, rfl⟩
  have a1 : IntKind.i64.wrap (512 * (k0 : Int)) = (q1 : Int) := by rw [IntKind.wrap_i64]; omega
  have a2 : IntKind.i64.wrap (4096 + (q1 : Int)) = (q2 : Int) := by rw [IntKind.wrap_i64]; omega
  have a3 : IntKind.i64.wrap (4608 + (q1 : Int)) = (q3 : Int) := by rw [IntKind.wrap_i64]; omega
  have HQ := Lib.hid (show q2 < 20000 /\ q3 < 20000 /\ q2 <= q3 by omega)
  obtain ⟨p, hp⟩ : ∃ p, p = SP.fresh 8 1 l0 := ⟨_, rfl⟩
  have hpo : SP.Ok p := by rw [hp]; exact SP.fresh_ok (by decide) (by decide) l0
  have hper : p.per = 1 := by rw [hp]; rfl
  have hsize : SP.size p = 512 := by unfold SP.size; rw [hper]
  have KC32 := Lib.hid (show (row8 l0).length = 32 by rw [row8_len]; exact h0.1)
  have HNW := Lib.hid (fun W d (hW : Below w.heap.size w W) => (show Calls Tryd.prog 7 #[.pointer (some ⟨d, 0, none⟩), .agg #[.int .i64 8, .int .i64 1], .agg (row8 l0).toArray] W fun e w' => ∃ s, e = .returned (.pointer (some ⟨s, 0, none⟩)) /\ Spa (fun k => W.heap.size <= k /\ k < w'.heap.size) w' s d p /\ Below W.heap.size W w' from by rw [hp]; exact spcnew_ok d 8 1 (by decide) (by decide) l0 h0 W (tx.below hW) (tp.below hW)))
  obtain ⟨KC, hKC⟩ : ∃ x, x = row8 l0 := ⟨_, rfl⟩
  rw [<- hKC] at HNW KC32 ⊢
  -- the bytes
  obtain ⟨ao, cap, rfl, hcap⟩ := h2.shape
  obtain ⟨L, hL⟩ : ∃ L, L = l2.length := ⟨_, rfl⟩
  obtain ⟨m, hm⟩ : ∃ m, m = min L 512 := ⟨_, rfl⟩
  obtain ⟨b, hb⟩ : ∃ b, b = l2.take 512 := ⟨_, rfl⟩
  have hbl : b.length = m := by rw [hb, List.length_take, hm, hL]; omega
  have hbm : b = l2.take m := by
    rw [hb, hm, hL]
    by_cases c : l2.length <= 512
    . rw [Nat.min_eq_left c, List.take_of_length_le c, List.take_of_length_le (Nat.le_refl _)]
    . rw [Nat.min_eq_right (by omega)]
  have HRB := Lib.hid (show Rd w (.slice ao m cap) b by rw [hbm]; exact h2.take m (by omega))
  have hm5 : m <= 512 := by omega
  have hmL : m <= L := by omega
  have hfit := h2.fits
  rw [<- hL] at hcap hfit
  have HBD := Lib.hid (show padTo b 512 = b ++ List.replicate (512 - m) 0 by unfold padTo; rw [hbl])
  obtain ⟨D, hD⟩ : ∃ D, D = padTo b 512 := ⟨_, rfl⟩
  have hDl : D.length = 512 := by rw [hD, padTo_len]; omega
  have hDb : ∀ k, gb D k < 256 := by rw [hD]; exact padTo_byte _ _ HRB.out.byte
  rw [<- hD] at HBD
  -- the states
  have F0 := SP.Few.beg
  obtain ⟨U1, s1⟩ := SP.full_up SP.ramp_len
  have F1 : SP.Few (DM.load SP.beg SP.ramp) 0 := F0.load SP.ramp_byte
  have R1 : SP.Room p (DM.load SP.beg SP.ramp) k0 := SP.full_room hper SP.ramp_len (by omega)
  obtain ⟨RR, hRR⟩ : ∃ x, x = SP.ramp := ⟨_, rfl⟩
  obtain ⟨SB, hSB⟩ : ∃ x, x = SP.beg := ⟨_, rfl⟩
  have HRR := Lib.hid (show RR.length = 16384 by rw [hRR]; exact SP.ramp_len)
  obtain ⟨RT, hRT⟩ : ∃ f, f = SP.rampTo := ⟨_, rfl⟩
  have HRL := Lib.hid (fun j (hj : j <= 16384) => (show (RT j).length = 16384 by rw [hRT]; exact SP.rampTo_len hj))
  have HRN := Lib.hid (fun j (hj : j < 16384) => (show (RT j).set j (j % 251) = RT (j + 1) by rw [hRT]; exact SP.rampTo_next hj))
  have HRE := Lib.hid (show RT 16384 = RR by rw [hRT, hRR]; exact SP.rampTo_all)
  have HBY0 := Lib.hid (fun W d A (h : Dev w.heap.size A W d SB) => (show Calls Tryd.prog 5 #[.pointer (some ⟨d, 0, none⟩)] W fun e w' => ∃ y, e = .returned y /\ Own w' W.heap.size y (RT 0) /\ Below W.heap.size W w' by
    have q := dev_bytes w.heap.size A d SB W h (by rw [hSB]; exact F0.tame (by decide))
    rw [hSB, SP.beg_seen] at q
    rw [hRT, SP.rampTo_zero]; exact q))
  rw [<- hRR] at U1 s1 F1 R1
  rw [<- hSB] at U1 s1 F1 R1 HB F0
  obtain ⟨S1, hS1⟩ : ∃ x, x = DM.load SB RR := ⟨_, rfl⟩
  have HLD := Lib.hid (fun W d A v (h : Dev w.heap.size A W d SB) (hv : Rd W v RR) (hne : 0 < RR.length -> ∀ g, v.ownBlock = some g -> g < w.heap.size \/ A g) => (show Calls Tryd.prog 6 #[.pointer (some ⟨d, 0, none⟩), v] W fun e w' => e = .returned (.tuple #[]) /\ Dev w.heap.size A w' d S1 /\ Kept w.heap.size A W w' by rw [hS1]; exact dev_load w.heap.size A d SB W h (F0.tame (by decide)) v RR hv hne))
  rw [<- hS1] at U1 s1 F1 R1
  obtain ⟨PG, hPG⟩ : ∃ x, x = padTo b (SP.size p) := ⟨_, rfl⟩
  have hPD : PG = D := by rw [hPG, hsize, hD]
  have hPl : PG.length = SP.size p := by rw [hPD, hDl, hsize]
  have hPb : ∀ k, gb PG k < 256 := by rw [hPD]; exact hDb
  have hbs : b.length <= SP.size p := by rw [hbl, hsize]; exact hm5
  have e1 := SP.putPage_room R1 hbs
  rw [<- hPG] at e1
  have F2 := F1.lay p k0 hPb (by rw [hPl]; exact SP.size_le hpo)
  have U2 := SP.lay_up U1 R1 hPl
  have R2 := R1.lay R1 hPl
  have T2 : ∀ k, (k < 4096 + 512 * k0 \/ 4608 + 512 * k0 <= k) -> gb (SP.lay p S1 k0 PG).1.seen k = gb RR k := fun k hk => (SP.lay_apart hper R1 hPl hk).trans (by rw [s1])
  obtain ⟨S2, hS2⟩ : ∃ x, x = (SP.lay p S1 k0 PG).1 := ⟨_, rfl⟩
  rw [<- hS2] at e1 F2 U2 R2 T2
  have hr1 : Pok ⟨k0 + 1, SP.psum PG⟩ := ⟨by show k0 + 1 < 4294967296; omega, sha_bytes _⟩
  have H1 := Lib.hid (fun W s d A (h : Laid w.heap.size W s d p A S1) v (hv : Rd W v b) => (show Calls Tryd.prog 8 #[.pointer (some ⟨s, 0, none⟩), .int .u32 (k0 : Int), v] W fun e w' => e = .returned (.tuple #[.agg (pc ⟨k0 + 1, SP.psum PG⟩).toArray, .int .i64 0]) /\ Laid w.heap.size w' s d p A S2 /\ Kept w.heap.size A W w' by have q := laid_putpage hpo h F1 (by decide) k0 (by omega) b v hv; rw [e1] at q; exact q))
  have RC33 := Lib.hid (pc_len hr1)
  have RC1 := Lib.hid (one_pg ⟨k0 + 1, SP.psum PG⟩)
  obtain ⟨RC, hRC⟩ : ∃ x, x = pc ⟨k0 + 1, SP.psum PG⟩ := ⟨_, rfl⟩
  rw [<- hRC] at RC33 RC1 H1
  -- a node
  have e2 := SP.putNode_room hpo R2 ND.zn_ok
  have hNl : (SP.nodeBytes p ND.zn).length = SP.size p := SP.nodeBytes_len hpo ND.zn_ok
  have hNb : ∀ k, gb (SP.nodeBytes p ND.zn) k < 256 := by unfold SP.nodeBytes; exact SP.padTo_byte' _ (SP.ones_byte3 _ ND.zn_ok.ok)
  have F3 := F2.lay p k0 hNb (by rw [hNl]; exact SP.size_le hpo)
  have U3 := SP.lay_up U2 R2 hNl
  have T3 : ∀ k, (k < 4096 + 512 * k0 \/ 4608 + 512 * k0 <= k) -> gb (SP.lay p S2 k0 (SP.nodeBytes p ND.zn)).1.seen k = gb RR k := fun k hk => (SP.lay_apart hper R2 hNl hk).trans (T2 k hk)
  obtain ⟨S3, hS3⟩ : ∃ x, x = (SP.lay p S2 k0 (SP.nodeBytes p ND.zn)).1 := ⟨_, rfl⟩
  rw [<- hS3] at e2 F3 U3 T3
  obtain ⟨X3, hX3⟩ : ∃ x : Pg, x = ⟨k0 + 1, SP.nsum (SP.nodeBytes p ND.zn)⟩ := ⟨_, rfl⟩
  rw [<- hX3] at e2
  obtain ⟨Y3, hY3⟩ : ∃ x, x = pc X3 := ⟨_, rfl⟩
  have H2 := Lib.hid (fun W s d A (h : Laid w.heap.size W s d p A S2) => (show Calls Tryd.prog 9 #[.pointer (some ⟨s, 0, none⟩), .int .u32 (k0 : Int), .agg (pcs ND.zn).toArray] W fun e w' => e = .returned (.tuple #[.agg Y3.toArray, .int .i64 0]) /\ Laid w.heap.size w' s d p A S3 /\ Kept w.heap.size A W w' by have q := laid_putnode hpo h F2 (by decide) k0 (by omega) ND.zn ND.zn_ok; rw [e2] at q; rw [hY3]; exact q))
  have HZN := Lib.hid built_zn
  obtain ⟨ZN, hZN⟩ : ∃ x, x = pcs ND.zn := ⟨_, rfl⟩
  rw [<- hZN] at HZN H2
  -- data
  have hDs : D.length = SP.size p := by rw [hDl, hsize]
  have e3 := SP.putData_room hpo R2 (show k0 <= 65535 by omega) hDs
  obtain ⟨C, hC⟩ : ∃ C, C = SP.sealed p k0 D := ⟨_, rfl⟩
  have hCl : C.length = SP.size p := by rw [hC]; exact SP.sealed_len3 hpo k0 hDs
  have hCb : ∀ k, gb C k < 256 := by rw [hC]; exact SP.sealed_byte hpo k0 D
  rw [<- hC] at e3
  have F4 := F2.lay p k0 hCb (by rw [hCl]; exact SP.size_le hpo)
  have U4 := SP.lay_up U2 R2 hCl
  have T4 : ∀ k, (k < 4096 + 512 * k0 \/ 4608 + 512 * k0 <= k) -> gb (SP.lay p S2 k0 C).1.seen k = gb RR k := fun k hk => (SP.lay_apart hper R2 hCl hk).trans (T2 k hk)
  obtain ⟨S4, hS4⟩ : ∃ x, x = (SP.lay p S2 k0 C).1 := ⟨_, rfl⟩
  rw [<- hS4] at e3 F4 U4 T4
  obtain ⟨X4, hX4⟩ : ∃ x : Pg, x = ⟨k0 + 1, SP.leaf p (k0 + 1) C⟩ := ⟨_, rfl⟩
  rw [<- hX4] at e3
  obtain ⟨Y4, hY4⟩ : ∃ x, x = pc X4 := ⟨_, rfl⟩
  have H3 := Lib.hid (fun W s d A (h : Laid w.heap.size W s d p A S2) v (hv : Rd W v D) => (show Calls Tryd.prog 10 #[.pointer (some ⟨s, 0, none⟩), .int .u32 (k0 : Int), v] W fun e w' => e = .returned (.tuple #[.agg Y4.toArray, .int .i64 0]) /\ Laid w.heap.size w' s d p A S4 /\ Kept w.heap.size A W w' by have q := laid_putdata hpo h F2 (by decide) k0 (by omega) D v hv; rw [e3] at q; rw [hY4]; exact q))
  obtain ⟨NS2, hNS2⟩ : ∃ x, x = S2.seen := ⟨_, rfl⟩
  have HNL2 := Lib.hid (show NS2.length = 16384 by rw [hNS2]; exact U2.len)
  have HNA2 := Lib.hid (fun k (hk : k < q2 \/ q3 <= k) => (show gb NS2 k = gb RR k by rw [hNS2]; exact T2 k (by omega)))
  have HBY2 := Lib.hid (fun W s d A (h : Laid w.heap.size W s d p A S2) => (show Calls Tryd.prog 5 #[.pointer (some ⟨d, 0, none⟩)] W fun e w' => ∃ y, e = .returned y /\ Own w' W.heap.size y NS2 /\ Below W.heap.size W w' by rw [hNS2]; exact laid_bytes h F2 (by decide)))
  clear hNS2
  obtain ⟨NS3, hNS3⟩ : ∃ x, x = S3.seen := ⟨_, rfl⟩
  have HNL3 := Lib.hid (show NS3.length = 16384 by rw [hNS3]; exact U3.len)
  have HNA3 := Lib.hid (fun k (hk : k < q2 \/ q3 <= k) => (show gb NS3 k = gb RR k by rw [hNS3]; exact T3 k (by omega)))
  have HBY3 := Lib.hid (fun W s d A (h : Laid w.heap.size W s d p A S3) => (show Calls Tryd.prog 5 #[.pointer (some ⟨d, 0, none⟩)] W fun e w' => ∃ y, e = .returned y /\ Own w' W.heap.size y NS3 /\ Below W.heap.size W w' by rw [hNS3]; exact laid_bytes h F3 (by decide)))
  clear hNS3
  obtain ⟨NS4, hNS4⟩ : ∃ x, x = S4.seen := ⟨_, rfl⟩
  have HNL4 := Lib.hid (show NS4.length = 16384 by rw [hNS4]; exact U4.len)
  have HNA4 := Lib.hid (fun k (hk : k < q2 \/ q3 <= k) => (show gb NS4 k = gb RR k by rw [hNS4]; exact T4 k (by omega)))
  have HBY4 := Lib.hid (fun W s d A (h : Laid w.heap.size W s d p A S4) => (show Calls Tryd.prog 5 #[.pointer (some ⟨d, 0, none⟩)] W fun e w' => ∃ y, e = .returned y /\ Own w' W.heap.size y NS4 /\ Below W.heap.size W w' by rw [hNS4]; exact laid_bytes h F4 (by decide)))
  clear hNS4
  obtain ⟨RZ, hRZ⟩ : ∃ x, x = pc ND.zp := ⟨_, rfl⟩
  have hz2 : ∀ w, (zeroValue 37).run Tryd.prog w = .ok (.agg RZ.toArray) w := by rw [hRZ]; exact zeroRfP
  have RZ33 := Lib.hid (show RZ.length = 33 by rw [hRZ]; exact pc_len ND.zp_ok)
  have hc0 : (m : Int) <= (cap : Int) := by omega
  have hcc : m <= cap := by omega
  have hc2 : (0 : Int) <= (m : Int) := by omega
  have HMD := Lib.hid (show IntKind.i64.wrap (512 - (m : Int)) = ((512 - m : Nat) : Int) by rw [IntKind.wrap_i64]; omega)
  have hmd := HMD.out
  have HMF := Lib.hid (show b.length + (512 - m) <= 140737488355328 by omega)
  have HMIN := Lib.hid (fun (o : Oper) (a : Act) (V : World) (x : Operand) (ts : Array TypeId) ho hx => (show (execOp a.eval o).run Tryd.prog V = .ok (.value (.int .i64 (m : Int))) V by rw [hm]; exact ex_min_at (L := L) (x := x) (ts := ts) ho hx))
  have HLB := Lib.hid (show b.length <= 512 by omega)
  rw [<- hL]
  obtain ⟨NR, hNR⟩ : ∃ x, x = row8 [n0, n1] := ⟨_, rfl⟩
  have H0c := Lib.hid (show NR[0]? = some (.int .u8 (n0 : Int)) by rw [hNR]; rfl)
  have H1c := Lib.hid (show NR[1]? = some (.int .u8 (n1 : Int)) by rw [hNR]; rfl)
  rw [<- hNR]
  obtain ⟨w1, hw1⟩ : ∃ x, x = (w.alloc (.cells KC.toArray 23)).alloc (.cells NR.toArray 24) := ⟨_, rfl⟩
  have W1 := Lib.hid (show Below w.heap.size w w1 by rw [hw1]; exact ((Below.refl w.heap.size w).alloc (Nat.le_refl _) _).alloc (by simp) _)
  have K1 := Lib.hid (show Blk w1 w.heap.size 23 KC by rw [hw1]; exact (Blk.new w 23 KC _ rfl).alloc _)
  have N1 := Lib.hid (show Blk w1 (w.heap.size + 1) 24 NR by rw [hw1]; exact Blk.new _ 24 NR (w.heap.size + 1) (by simp))
  clear e1 e2 e3 F0 F1 F2 F3 F4 U1 U2 U3 U4 R1 R2 T2 T3 T4 s1 hr1 hNl hNb hCl hCb hC hDs hPG hPD hPl hPb hbs hD hDl hDb hp hpo hper hsize hKC hRZ hZN hX3 hX4 hY3 hY4 hS1 hS2 hS3 hS4 hRC hRR hRT hSB tx tu tp h0 h1 h2 hb hbl hbm hL hm hk0 hk1 hNR hq1 hq2 hq3
  go_enter Tryd.func3, Tryd.ntmps3
  go_upto_region 1 with fail
  rw [<- hw1]
  clear hw1
  go_wp2_with (first
    | ((with_reducible show wpList _ _ _ (Oper.mk (some 19) (.call _) _ _ _ _ :: _) _ _); refine wpList_wanted rfl (.int .i64 (m : Int)) (HMIN.out _ _ _ (.tmp 18) _ rfl rfl) ?_)
    | (go_at_call 4; (with_reducible refine (HB.out _ W1.out).mono ?_); rintro e w2 ⟨d, rfl, d2, bb⟩; obtain ⟨A2, d2, hA2⟩ : ∃ A, Dev w.heap.size A w2 d SB /\ ∀ k, w.heap.size <= k -> k < w1.heap.size -> A k := ⟨_, d2, fun k a b => ⟨a, b⟩⟩; have D2 := Lib.hid d2; have MK2 := Lib.hid (hA2 _ (Nat.le_refl _) K1.out.lt); have MN2 := Lib.hid (hA2 _ (Nat.le_succ _) N1.out.lt); have K2 := Lib.hid (K1.out.below bb K1.out.lt); have N2 := Lib.hid (N1.out.below bb N1.out.lt); have W2 := Lib.hid (W1.out.on bb); clear d2 hA2 bb)
    | (go_at_call 5; (with_reducible refine (HBY0.out w2 d A2 D2.out).mono ?_); rintro e w3 ⟨y, rfl, oy, bb⟩; obtain ⟨ya, cp, rfl, hcp⟩ := oy.rd.shape; rw [HRL.out 0 (Nat.zero_le _)] at oy hcp ⊢; obtain ⟨u, rfl⟩ := own_at oy (by rw [HRL.out 0 (Nat.zero_le _)]; decide); have K3 := Lib.hid (K2.out.below bb K2.out.lt); have N3 := Lib.hid (N2.out.below bb N2.out.lt); have W3 := Lib.hid (W2.out.on bb); obtain ⟨A3, d3, i3, n3⟩ : ∃ A, Dev w.heap.size A w3 d SB /\ (∀ k, A2 k -> A k) /\ (∀ k, w2.heap.size <= k -> k < w3.heap.size -> A k) := ⟨_, D2.out.own bb, fun _ q => .inl q, fun _ a b => .inr ⟨a, b⟩⟩; have D3 := Lib.hid d3; have MK3 := Lib.hid (i3 _ MK2.out); have MN3 := Lib.hid (i3 _ MN2.out); have MO3 := Lib.hid (n3 u (oy.from u rfl).1 (oy.from u rfl).2); have UB := Lib.hid (Nat.le_trans W2.out.size (oy.from u rfl).1); have O3 := Lib.hid (oy.lower W2.out.size); clear d3 i3 n3 bb hcp oy))
  go_loopw [9] (fun i wr => ∃ j : Nat, j <= 16384 /\ i = .int .i64 (j : Int) /\ Own wr w.heap.size (.slice (some ⟨u, 0, none⟩) 16384 cp) (RT j) /\ Dev w.heap.size A3 wr d SB /\ Blk wr w.heap.size 23 KC /\ Blk wr (w.heap.size + 1) 24 NR /\ Below w.heap.size w wr) (fun i _ => 16384 - (intOf i).toNat)
  case atStart => exact ⟨0, by omega, rfl, O3.out, D3.out, K3.out, N3.out, W3.out⟩
  case round =>
    obtain ⟨j, hj, rfl, o7, d7, k7, n7, b7⟩ := hrel
    have O7 := Lib.hid o7
    have D7 := Lib.hid d7
    have K7 := Lib.hid k7
    have N7 := Lib.hid n7
    have W7 := Lib.hid b7
    clear o7 d7 k7 n7 b7
    by_cases hlt : j < 16384
    . have hltI : (j : Int) < 16384 := by omega
      have HLJ := Lib.hid (HRL.out j hj)
      have co := O7.out.cell HLJ.out.symm j (by rw [HLJ.out]; exact hlt)
      have fo := O7.out.free HLJ.out.symm j
      obtain ⟨x8, hx8⟩ : ∃ x, x = j % 251 := ⟨_, rfl⟩
      have hx256 : x8 < 256 := by omega
      have m1 : (j : Int) % 251 = (x8 : Int) := by omega
      have m2 : (j : Int).tmod 251 = (x8 : Int) := by rw [Int.tmod_eq_emod_of_nonneg (by omega)]; omega
      have m3 : IntKind.i64.wrap (x8 : Int) = (x8 : Int) := by rw [IntKind.wrap_i64]; omega
      have m4 : IntKind.u8.wrap (x8 : Int) = (x8 : Int) := by rw [IntKind.wrap_u8]; omega
      obtain ⟨V, hV⟩ : ∃ V, V = wr.setCell ⟨u, j, none⟩ (.int .u8 (x8 : Int)) := ⟨_, rfl⟩
      have hg : wr.grownBy V (some u) := by rw [hV]; exact grownBy_cell wr u j (.int .u8 (x8 : Int))
      have O8 := Lib.hid (show Own V w.heap.size (.slice (some ⟨u, 0, none⟩) 16384 cp) (RT (j + 1)) by
        have h := O7.out
        have hl := HLJ.out
        rw [<- HRN.out j hlt, hV, <- hx8]
        rw [<- hl] at h ⊢
        exact h.set j x8 hx256 (by rw [hl]; exact hlt))
      have W8 := Lib.hid (W7.out.grown hg W7.out.size (fun i hi => by have := Option.some.inj hi; have := UB.out; omega))
      have D8 := Lib.hid (D7.out.turn hg (fun i e => by rw [<- Option.some.inj e]; exact MO3.out))
      have K8 := Lib.hid (K7.out.grown hg (fun q => own_apartQ K7.out O7.out (by decide) q.symm))
      have N8 := Lib.hid (N7.out.grown hg (fun q => own_apartQ N7.out O7.out (by decide) q.symm))
      clear hx8 hx256 hg
      go_upto_region 6 with fail
      rw [<- hV]
      clear hV co fo
      go_wp2_with fail
      exact ⟨⟨j + 1, by omega, by go_num, O8.out, D8.out, K8.out, N8.out, W8.out⟩, by simp [intOf]; omega⟩
    . have hltI : ¬ (j : Int) < 16384 := by omega
      obtain rfl : j = 16384 := by omega
      obtain ⟨w7, rfl⟩ : ∃ x, x = wr := ⟨wr, rfl⟩
      have MO7 := Lib.hid (fun (_ : 0 < RR.length) g (e : (.slice (some ⟨u, 0, none⟩) 16384 cp : Value).ownBlock = some g) => (show g < w.heap.size \/ A3 g from .inr (by rw [<- Option.some.inj e]; exact MO3.out)))
      have O7 := Lib.hid (show Rd w7 (.slice (some ⟨u, 0, none⟩) 16384 cp) RR by rw [<- HRE.out]; exact O7.out.rd)
      go_upto_region 12 with (first
        | (go_at_call 6; (with_reducible refine (HLD.out w7 d A3 (.slice (some ⟨u, 0, none⟩) 16384 cp) D7.out O7.out MO7.out).mono ?_); rintro e w8 ⟨rfl, dd, kk⟩; have D8 := Lib.hid dd; have O8 := Lib.hid (O7.out.kept0 kk MO7.out); have K8 := Lib.hid (K7.out.kept kk (.inr MK3.out)); have N8 := Lib.hid (N7.out.kept kk (.inr MN3.out)); have W8 := Lib.hid (kk.below W7.out W7.out.size); clear dd kk)
        | ((with_reducible show wpList _ _ _ (Oper.mk (some 40) (.build _ _) _ _ _ _ :: _) _ _); refine wpList_wanted rfl (.agg #[.int .i64 8, .int .i64 1]) (ex_build rfl (by kernel_rfl)) ?_)
        | ((with_reducible show wpList _ _ _ (Oper.mk (some 41) (.load _ (.tmp 3)) _ _ _ _ :: _) _ _); refine wpList_load_wanted rfl 23 (.tmp 3) rfl w.heap.size 0 rfl KC _ K8.out.range Tryd.underlying23 rfl (by rw [KC32.out]; exact infoKeyP) ?_)
        | (go_at_call 7; (with_reducible refine (HNW.out _ d W8.out).mono ?_); rintro e w9 ⟨s, rfl, hs, bb⟩; obtain ⟨A9, l9, i9⟩ : ∃ A, Laid w.heap.size w9 s d p A S1 /\ ∀ k, A3 k -> A k := ⟨_, laid_new D8.out (HT.out.below W8.out) hs bb, fun k q => .inl q⟩; have L9 := Lib.hid l9; have O9 := Lib.hid (O8.out.below bb); have N9 := Lib.hid (N8.out.below bb N8.out.lt); have W9 := Lib.hid (W8.out.on bb); have MO9 := Lib.hid (fun h g e => (MO7.out h g e).imp_right (i9 g)); have MN9 := Lib.hid (i9 _ MN3.out); have B9 := Lib.hid (HRB.out.below W9.out); have c9 := N9.out.cell 0 _ H0c.out; clear hs bb l9 i9)
        | (go_at_call 8; (with_reducible refine (H1.out w9 s d _ L9.out (.slice ao m cap) B9.out).mono ?_); rintro e w10 ⟨rfl, ll, kk⟩; have L10 := Lib.hid ll; have O10 := Lib.hid (O9.out.kept0 kk MO9.out); have N10 := Lib.hid (N9.out.kept kk (.inr MN9.out)); have W10 := Lib.hid (kk.below W9.out W9.out.size); clear kk ll c9)
        | ((with_reducible show wpList _ _ _ (Oper.mk _ (.store _ (.tmp 12) (.tmp 52)) _ _ _ _ :: _) _ _); refine wpList_store_blk rfl 37 (.tmp 12) (.tmp 52) rfl w10.heap.size 0 RC rfl rfl 37 RZ (Blk.new w10 37 RZ _ rfl) (by have := RC33.out; have := RZ33.out; omega) (by rw [RC33.out]; exact infoRfQ) RC1.out ?_; intro w11 b' g'; have bb := alloc_turn (Below.refl _ _) g'; have O11 := Lib.hid (O10.out.below bb); have N11 := Lib.hid (N10.out.below bb N10.out.lt); have W11 := Lib.hid (W10.out.on bb); obtain ⟨A11, l', i', n'⟩ := L10.out.own2 bb; have L11 := Lib.hid l'; have MO11 := Lib.hid (fun h g e => (MO9.out h g e).imp_right (i' g)); have MN11 := Lib.hid (i' _ MN9.out); have B11 := Lib.hid (HRB.out.below W11.out); have c11 := N11.out.cell 1 _ H1c.out; clear bb l' i' n' b' g'))
      clear H1 HLD HNW HB HBY0 L9 L10 D7 D8 O8 O9 O10
      rcases HCC.out with hc | hc | hc
      . have q5 : (n1 : Int) % 3 = 0 := by have := Hc1.out.1; omega
        have q6 : (n1 : Int).tmod 3 = 0 := by have := Hc1.out.2; omega
        clear hc
        go_wp2_with (first
          | (go_at_call 5; (with_reducible refine (HBY2.out w11 s d _ L11.out).mono ?_); rintro e w20 ⟨y, rfl, oy, bb⟩; obtain ⟨ya, cq, rfl, hcq⟩ := oy.rd.shape; rw [HNL2.out] at oy ⊢; obtain ⟨v, rfl⟩ := own_at oy (by rw [HNL2.out]; decide); have O20 := Lib.hid (O11.out.below bb); have Q20 := Lib.hid oy.rd; have W20 := Lib.hid (W11.out.on bb); clear bb hcq oy))
        go_loopw [15] (fun x wr => ∃ i : Nat, i <= 16384 /\ x = .int .i64 (i : Int) /\ Rd wr (.slice (some ⟨u, 0, none⟩) 16384 cp) RR /\ Rd wr (.slice (some ⟨v, 0, none⟩) 16384 cq) NS2 /\ Below w.heap.size w wr) (fun x _ => 16384 - (intOf x).toNat)
        case atStart => exact ⟨0, by omega, rfl, O20.out, Q20.out, W20.out⟩
        case round =>
          obtain ⟨i, hi, rfl, oa, on, bw⟩ := hrel
          have OA := Lib.hid oa
          have ON := Lib.hid on
          have BW := Lib.hid bw
          clear oa on bw
          by_cases hlt : i < 16384
          . have hltI : (i : Int) < 16384 := by omega
            have ca := rd_cell0 OA.out (j := i) (by rw [HRR.out]; exact hlt)
            have cn := rd_cell0 ON.out (j := i) (by rw [HNL2.out]; exact hlt)
            obtain ⟨hQ1, hQ2, hQ3⟩ := HQ.out
            have hi0 : (0 : Int) <= (i : Int) := by omega
            by_cases c : i < q2
            . have g1 : (i : Int) < (q2 : Int) := by omega
              have g2 : decide (i < q2) = true := by simpa using c
              have g3 : decide ((i : Int) < (q2 : Int)) = true := by simpa using g1
              rw [HNA2.out i (.inl c)] at cn
              clear hQ1 hQ2 hQ3
              go_wp2_with fail
              go_big_quiet (fail)
              go_wp2_with fail
              exact ⟨⟨i + 1, by omega, by go_num, OA.out.below (below_dN (Below.refl _ _) nq), ON.out.below (below_dN (Below.refl _ _) nq), below_dN BW.out nq⟩, by simp [intOf]; omega⟩
            . have g1 : ¬ (i : Int) < (q2 : Int) := by omega
              have g2 : decide (i < q2) = false := by simp; omega
              have g3 : decide ((i : Int) < (q2 : Int)) = false := by simp; omega
              by_cases c' : q3 <= i
              . have g4 : (q3 : Int) <= (i : Int) := by omega
                have g5 : decide (q3 <= i) = true := by simpa using c'
                have g6 : decide ((q3 : Int) <= (i : Int)) = true := by simpa using g4
                rw [HNA2.out i (.inr c')] at cn
                clear hQ1 hQ2 hQ3
                go_wp2_with fail
                go_big_quiet (fail)
                go_wp2_with fail
                exact ⟨⟨i + 1, by omega, by go_num, OA.out.below (below_dN (Below.refl _ _) nq), ON.out.below (below_dN (Below.refl _ _) nq), below_dN BW.out nq⟩, by simp [intOf]; omega⟩
              . have g4 : ¬ (q3 : Int) <= (i : Int) := by omega
                have g5 : decide (q3 <= i) = false := by simp; omega
                have g6 : decide ((q3 : Int) <= (i : Int)) = false := by simp; omega
                clear hQ1 hQ2 hQ3
                go_wp2_with fail
                go_big_quiet (fail)
                go_wp2_with fail
                exact ⟨⟨i + 1, by omega, by go_num, OA.out.below (below_dN (Below.refl _ _) nq), ON.out.below (below_dN (Below.refl _ _) nq), below_dN BW.out nq⟩, by simp [intOf]; omega⟩
          . have hltI : ¬ (i : Int) < 16384 := by omega
            obtain rfl : i = 16384 := by omega
            go_wp2_with (go_at_call 11; (with_reducible refine (HAW.out _ BW.out).mono ?_); rintro e w99 ⟨rfl, bb⟩; have W99 := Lib.hid (BW.out.on bb); clear bb)
            go_ret
            exact ⟨rfl, W99.out⟩
      . have q5 : (n1 : Int) % 3 = 1 := by have := Hc1.out.1; omega
        have q6 : (n1 : Int).tmod 3 = 1 := by have := Hc1.out.2; omega
        clear hc
        go_wp2_with (first
          | ((with_reducible show wpList _ _ _ (Oper.mk (some 61) (.build _ _) _ _ _ _ :: _) _ _); refine wpList_wanted rfl (.agg ZN.toArray) (ex_build0 rfl HZN.out) ?_)
          | (go_at_call 9; (with_reducible refine (H2.out w11 s d _ L11.out).mono ?_); rintro e w12 ⟨rfl, ll, kk⟩; have L12 := Lib.hid ll; have O12 := Lib.hid (O11.out.kept0 kk MO11.out); have N12 := Lib.hid (N11.out.kept kk (.inr MN11.out)); have c12 := N12.out.cell 1 _ H1c.out; have W12 := Lib.hid (kk.below W11.out W11.out.size); clear kk ll)
          | (go_at_call 5; (with_reducible refine (HBY3.out w12 s d _ L12.out).mono ?_); rintro e w20 ⟨y, rfl, oy, bb⟩; obtain ⟨ya, cq, rfl, hcq⟩ := oy.rd.shape; rw [HNL3.out] at oy ⊢; obtain ⟨v, rfl⟩ := own_at oy (by rw [HNL3.out]; decide); have O20 := Lib.hid (O12.out.below bb); have Q20 := Lib.hid oy.rd; have W20 := Lib.hid (W12.out.on bb); clear bb hcq oy))
        go_loopw [15] (fun x wr => ∃ i : Nat, i <= 16384 /\ x = .int .i64 (i : Int) /\ Rd wr (.slice (some ⟨u, 0, none⟩) 16384 cp) RR /\ Rd wr (.slice (some ⟨v, 0, none⟩) 16384 cq) NS3 /\ Below w.heap.size w wr) (fun x _ => 16384 - (intOf x).toNat)
        case atStart => exact ⟨0, by omega, rfl, O20.out, Q20.out, W20.out⟩
        case round =>
          obtain ⟨i, hi, rfl, oa, on, bw⟩ := hrel
          have OA := Lib.hid oa
          have ON := Lib.hid on
          have BW := Lib.hid bw
          clear oa on bw
          by_cases hlt : i < 16384
          . have hltI : (i : Int) < 16384 := by omega
            have ca := rd_cell0 OA.out (j := i) (by rw [HRR.out]; exact hlt)
            have cn := rd_cell0 ON.out (j := i) (by rw [HNL3.out]; exact hlt)
            obtain ⟨hQ1, hQ2, hQ3⟩ := HQ.out
            have hi0 : (0 : Int) <= (i : Int) := by omega
            by_cases c : i < q2
            . have g1 : (i : Int) < (q2 : Int) := by omega
              have g2 : decide (i < q2) = true := by simpa using c
              have g3 : decide ((i : Int) < (q2 : Int)) = true := by simpa using g1
              rw [HNA3.out i (.inl c)] at cn
              clear hQ1 hQ2 hQ3
              go_wp2_with fail
              go_big_quiet (fail)
              go_wp2_with fail
              exact ⟨⟨i + 1, by omega, by go_num, OA.out.below (below_dN (Below.refl _ _) nq), ON.out.below (below_dN (Below.refl _ _) nq), below_dN BW.out nq⟩, by simp [intOf]; omega⟩
            . have g1 : ¬ (i : Int) < (q2 : Int) := by omega
              have g2 : decide (i < q2) = false := by simp; omega
              have g3 : decide ((i : Int) < (q2 : Int)) = false := by simp; omega
              by_cases c' : q3 <= i
              . have g4 : (q3 : Int) <= (i : Int) := by omega
                have g5 : decide (q3 <= i) = true := by simpa using c'
                have g6 : decide ((q3 : Int) <= (i : Int)) = true := by simpa using g4
                rw [HNA3.out i (.inr c')] at cn
                clear hQ1 hQ2 hQ3
                go_wp2_with fail
                go_big_quiet (fail)
                go_wp2_with fail
                exact ⟨⟨i + 1, by omega, by go_num, OA.out.below (below_dN (Below.refl _ _) nq), ON.out.below (below_dN (Below.refl _ _) nq), below_dN BW.out nq⟩, by simp [intOf]; omega⟩
              . have g4 : ¬ (q3 : Int) <= (i : Int) := by omega
                have g5 : decide (q3 <= i) = false := by simp; omega
                have g6 : decide ((q3 : Int) <= (i : Int)) = false := by simp; omega
                clear hQ1 hQ2 hQ3
                go_wp2_with fail
                go_big_quiet (fail)
                go_wp2_with fail
                exact ⟨⟨i + 1, by omega, by go_num, OA.out.below (below_dN (Below.refl _ _) nq), ON.out.below (below_dN (Below.refl _ _) nq), below_dN BW.out nq⟩, by simp [intOf]; omega⟩
          . have hltI : ¬ (i : Int) < 16384 := by omega
            obtain rfl : i = 16384 := by omega
            go_wp2_with (go_at_call 11; (with_reducible refine (HAW.out _ BW.out).mono ?_); rintro e w99 ⟨rfl, bb⟩; have W99 := Lib.hid (BW.out.on bb); clear bb)
            go_ret
            exact ⟨rfl, W99.out⟩
      . have q5 : (n1 : Int) % 3 = 2 := by have := Hc1.out.1; omega
        have q6 : (n1 : Int).tmod 3 = 2 := by have := Hc1.out.2; omega
        clear hc
        go_wp2_with (first
          | ((with_reducible show wpList _ _ _ (Oper.mk (some 74) (.call _) _ _ _ _ :: _) _ _); refine wpList_app rfl (.tmp 72) (.tmp 73) rfl w11.heap.size (.slice (some ⟨w11.heap.size, 0, none⟩) 0 0) _ [] b rfl rfl (own_empty w11 rfl (Nat.le_refl _)) (B11.out.alloc _) (by have := HLB.out; simp; omega) (by simp) ?_; intro v2 w12 o2 g2 q2_; rw [List.nil_append] at o2; have P12 := Lib.hid o2; have bb : Below w11.heap.size w11 w12 := ((Below.refl _ _).alloc (Nat.le_refl _) _).grown g2 (by simp) (fun k hk => by have e : w11.heap.size = k := Option.some.inj hk; omega); have BB12 := Lib.hid bb; obtain ⟨va, vc, rfl, _⟩ := o2.rd.shape; clear o2 bb g2 q2_)
          | ((with_reducible show wpList _ _ _ (Oper.mk (some 78) (.call _) _ _ _ _ :: _) _ _); refine wpList_app0 rfl (.tmp 74) (.tmp 77) rfl w11.heap.size (.slice va b.length vc) b (512 - m) rfl rfl P12.out HMF.out BB12.out.size ?_; intro v3 w13 o3 g3 q3_; rw [<- HBD.out] at o3; have P13 := Lib.hid o3.rd; have bb : Below w11.heap.size w11 w13 := BB12.out.grown g3 BB12.out.size (fun k hk => (P12.out.from k hk).1); have L13 := Lib.hid (L11.out.below bb); have O13 := Lib.hid (O11.out.below bb); have W13 := Lib.hid (W11.out.on bb); obtain ⟨da, dc, rfl, _⟩ := o3.rd.shape; clear o3 g3 q3_ bb)
          | (go_at_call 10; (with_reducible refine (H3.out w13 s d _ L13.out (.slice da D.length dc) P13.out).mono ?_); rintro e w14 ⟨rfl, ll, kk⟩; have L14 := Lib.hid ll; have O14 := Lib.hid (O13.out.kept0 kk MO11.out); have W14 := Lib.hid (kk.below W13.out W13.out.size); clear kk ll)
          | (go_at_call 5; (with_reducible refine (HBY4.out w14 s d _ L14.out).mono ?_); rintro e w20 ⟨y, rfl, oy, bb⟩; obtain ⟨ya, cq, rfl, hcq⟩ := oy.rd.shape; rw [HNL4.out] at oy ⊢; obtain ⟨v, rfl⟩ := own_at oy (by rw [HNL4.out]; decide); have O20 := Lib.hid (O14.out.below bb); have Q20 := Lib.hid oy.rd; have W20 := Lib.hid (W14.out.on bb); clear bb hcq oy))
        go_loopw [15] (fun x wr => ∃ i : Nat, i <= 16384 /\ x = .int .i64 (i : Int) /\ Rd wr (.slice (some ⟨u, 0, none⟩) 16384 cp) RR /\ Rd wr (.slice (some ⟨v, 0, none⟩) 16384 cq) NS4 /\ Below w.heap.size w wr) (fun x _ => 16384 - (intOf x).toNat)
        case atStart => exact ⟨0, by omega, rfl, O20.out, Q20.out, W20.out⟩
        case round =>
          obtain ⟨i, hi, rfl, oa, on, bw⟩ := hrel
          have OA := Lib.hid oa
          have ON := Lib.hid on
          have BW := Lib.hid bw
          clear oa on bw
          by_cases hlt : i < 16384
          . have hltI : (i : Int) < 16384 := by omega
            have ca := rd_cell0 OA.out (j := i) (by rw [HRR.out]; exact hlt)
            have cn := rd_cell0 ON.out (j := i) (by rw [HNL4.out]; exact hlt)
            obtain ⟨hQ1, hQ2, hQ3⟩ := HQ.out
            have hi0 : (0 : Int) <= (i : Int) := by omega
            by_cases c : i < q2
            . have g1 : (i : Int) < (q2 : Int) := by omega
              have g2 : decide (i < q2) = true := by simpa using c
              have g3 : decide ((i : Int) < (q2 : Int)) = true := by simpa using g1
              rw [HNA4.out i (.inl c)] at cn
              clear hQ1 hQ2 hQ3
              go_wp2_with fail
              go_big_quiet (fail)
              go_wp2_with fail
              exact ⟨⟨i + 1, by omega, by go_num, OA.out.below (below_dN (Below.refl _ _) nq), ON.out.below (below_dN (Below.refl _ _) nq), below_dN BW.out nq⟩, by simp [intOf]; omega⟩
            . have g1 : ¬ (i : Int) < (q2 : Int) := by omega
              have g2 : decide (i < q2) = false := by simp; omega
              have g3 : decide ((i : Int) < (q2 : Int)) = false := by simp; omega
              by_cases c' : q3 <= i
              . have g4 : (q3 : Int) <= (i : Int) := by omega
                have g5 : decide (q3 <= i) = true := by simpa using c'
                have g6 : decide ((q3 : Int) <= (i : Int)) = true := by simpa using g4
                rw [HNA4.out i (.inr c')] at cn
                clear hQ1 hQ2 hQ3
                go_wp2_with fail
                go_big_quiet (fail)
                go_wp2_with fail
                exact ⟨⟨i + 1, by omega, by go_num, OA.out.below (below_dN (Below.refl _ _) nq), ON.out.below (below_dN (Below.refl _ _) nq), below_dN BW.out nq⟩, by simp [intOf]; omega⟩
              . have g4 : ¬ (q3 : Int) <= (i : Int) := by omega
                have g5 : decide (q3 <= i) = false := by simp; omega
                have g6 : decide ((q3 : Int) <= (i : Int)) = false := by simp; omega
                clear hQ1 hQ2 hQ3
                go_wp2_with fail
                go_big_quiet (fail)
                go_wp2_with fail
                exact ⟨⟨i + 1, by omega, by go_num, OA.out.below (below_dN (Below.refl _ _) nq), ON.out.below (below_dN (Below.refl _ _) nq), below_dN BW.out nq⟩, by simp [intOf]; omega⟩
          . have hltI : ¬ (i : Int) < 16384 := by omega
            obtain rfl : i = 16384 := by omega
            go_wp2_with (go_at_call 11; (with_reducible refine (HAW.out _ BW.out).mono ?_); rintro e w99 ⟨rfl, bb⟩; have W99 := Lib.hid (BW.out.on bb); clear bb)
            go_ret
            exact ⟨rfl, W99.out⟩
set_option maxRecDepth 100000 in
theorem reads (os : Os) {H : Type} (enc : TypeId × Value -> H) : ∃ places, DataW.whole enc Tryd.prog ((World.doorLaid Tryd.prog 400 os).forCall (fun _ _ => 0) ⟨#[], #[.agg (row8 (List.replicate 32 0)).toArray, .agg (row8 (List.replicate 2 0)).toArray, .slice none 0 0], []⟩).memory Tryd.f3.params.toList Rows.spaceApartSpec.vars false (#[.agg (row8 (List.replicate 32 0)).toArray, .agg (row8 (List.replicate 2 0)).toArray, .slice none 0 0] : Array Value).toList 8 = some ([lit8 (List.replicate 32 0), lit8 (List.replicate 2 0), .nil], [], places) :=
  ⟨[], by kernel_rfl⟩
set_option linter.unusedVariables false in
set_option maxHeartbeats 1000000 in
set_option maxRecDepth 100000 in
theorem lifted (os : Os) (started : os.Started) (H : Type) (enc : TypeId × Value -> H) (F : Stop.Interp) :
    ReturnsInHanded {} Tryd.checked os 3 .any ((OpenSpec.ofChange Rows.spaceApartSpec).preRow enc Tryd.prog Tryd.f3 Rows.spaceApartRow.domain false laidXUPs) (((OpenSpec.ofChange Rows.spaceApartSpec).at F).post enc Tryd.prog Tryd.f3 false true false false) := by
  obtain ⟨places, hx⟩ := reads os enc
  refine returnsInHanded_of_row (C := Tryd.checked) (s := OpenSpec.ofChange Rows.spaceApartSpec) own started (by kernel_rfl) Tryd.func3
    (witness_row_atRef (enc := enc) (C := Tryd.checked) false (World.doorLaid Tryd.prog 400 os) #[.agg (row8 (List.replicate 32 0)).toArray, .agg (row8 (List.replicate 2 0)).toArray, .slice none 0 0] rfl (by kernel_rfl) (by kernel_rfl) (by kernel_rfl)
      (OpenSpec.preRow_of_cond 8 hx (by kernel_rfl) (fun k hk => by cases hk) (by kernel_rfl) (doorXUPs_met os _))) ?_
  intro W base args ds gs before hval0 hW _ hcond hsz0 hL _ _
  have hsz : (DataW.weightsEach Tryd.prog (Tryd.f3.params.toList ++ Rows.spaceApartSpec.plain.varTypes Tryd.prog) (ds ++ gs)).all (· <= reachBytes) = true := hsz0
  clear hsz0
  have hval : ∀ (j : Nat) t v, Tryd.f3.params[j]? = some t -> args[j]? = some v -> Value.okWide Tryd.prog W .any base t v := hval0
  have hW' := hW
  obtain ⟨p, q, hA0, hV, rfl, _, _⟩ := hW
  have hA : DataW.TrodAll enc Tryd.prog W 0 (fun _ => true) true Tryd.f3.params.toList args.toList ds p := hA0
  rw [Tryd.params3] at hA hval hsz
  obtain ⟨v0, vs0, d0, ds0, p0, q0, hargs, rfl, rfl, g0, r0⟩ := trodAll_cons hA
  obtain ⟨v1, vs1, d1, ds1, p1, q1, rfl, rfl, rfl, g1, r1⟩ := trodAll_cons r0
  obtain ⟨v2, vs2, d2, ds2, p2, q2, rfl, rfl, rfl, g2, r2⟩ := trodAll_cons r1
  obtain ⟨rfl, rfl, rfl⟩ := trodAll_nil r2
  obtain rfl : args = #[v0, v1, v2] := by cases args; simp_all
  obtain ⟨rfl, rfl⟩ := trodVars_none hV
  obtain ⟨l0, h0, rfl, rfl, rfl⟩ := open_row Tryd.underlying23 Tryd.underlying5 cells5 (hval 0 23 v0 rfl rfl) cells23 g0
  obtain ⟨l1, h1, rfl, rfl, rfl⟩ := open_row Tryd.underlying24 Tryd.underlying5 cells5 (hval 1 24 v1 rfl rfl) cells24 g1
  obtain ⟨l2, h2⟩ := open_bytes (hval 2 25 v2 rfl rfl) g2 (fun elems spare e => sized_slice hsz (j := 2) (t := 25) (e := 5) rfl (by rw [<- e]; rfl) Tryd.underlying25)
  clear hA0 hval0
  have hlt := hW'.lt
  refine (walk W (tabsXUPs_of_laid hL) l0 h0 l1 h1 v2 l2 h2).mono fun e W' ⟨he, hb⟩ => ?_
  subst he
  have hargs : DataW.TrodAll enc Tryd.prog W' 0 (fun b => decide (b < W.heap.size)) true _ _ _ _ := (trodAll_cons_mk (shut_row Tryd.underlying23 Tryd.underlying5 cells5 cells23 h0) (trodAll_cons_mk (shut_row Tryd.underlying24 Tryd.underlying5 cells5 cells24 h1) (trodAll_cons_mk (Below.trod laidOut (by kernel_rfl) (of_decide_eq_true (by kernel_rfl)) g2 hb (fun x hx => hlt x (by simp [hx]))) trodAll_mk0)))
  simp only [List.append_nil] at hW' hargs
  exact ⟨_, rfl, post_law hW' (trodAll_cons_mk (shut_bool Tryd.underlying4 _) trodAll_mk0) hargs rfl hb⟩
theorem over : Rows.spaceApartRow.holds Tryd.pinned (OpenSpec.ofChange Rows.spaceApartSpec) :=
  OpenClaim.holds_of_cond 3 Tryd.f3 rfl rfl rfl rfl rfl rfl rfl ⟨rfl, rfl, rfl, rfl, rfl⟩ rfl rfl rfl rfl rfl (by kernel_rfl) Tryd.func3 (by kernel_rfl)
    (of_decide_eq_true (by kernel_rfl)) (by unfold Func.isWrapper; first | (rw [if_pos (by decide +kernel)]; kernel_rfl) | (rw [if_neg (by decide +kernel)]; exact ⟨rfl, rfl⟩))
    (fun os started H enc _ F => by rw [OpenClaim.pre_eq_preRow]; exact lifted os started H enc F)

/-- The given statement. -/
theorem proved : Rows.SpaceApartCardSaid :=
  Claim7.holds_tied_plain_at .later [] _ _ _ _
    over (fun _ h => by cases h) (by kernel_rfl) (fun _ h => by cases h) spaceApart_row_tie rfl ⟨rfl, rfl⟩ (by kernel_rfl) rfl
    (fun f fn hf hfn => by
      obtain rfl : f = 3 := Option.some.inj ((show Tryd.prog.funcNamed "reliquary/reliquarylaw16.SpaceApart" = some 3 by kernel_rfl).symm.trans hf) |>.symm
      obtain rfl : fn = Tryd.f3 := (Option.some.inj (Tryd.func3.symm.trans hfn)).symm
      exact ⟨by kernel_rfl, fun j t ht => by
        rw [Tryd.params3] at ht
        have hm : t ∈ [23, 24, 25] := by simpa using Array.mem_of_getElem? ht
        have hall : ([23, 24, 25].all fun u => !Tryd.prog.wantsStandIn u) = true := by kernel_rfl
        exact (show Tryd.prog.wantsStandIn t = false by simpa using List.all_eq_true.1 hall t hm)⟩)
    (by kernel_rfl)
end Go.Proofs.YtflnodkajhokhaaDoor.spaceApart
