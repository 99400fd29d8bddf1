/- SpaceTurned: a cluster in which a byte was turned is seen by its ref, but where it has the very same sum (of each kind one); so is one that was cut off; and the law's closed case holds. No condition but that the listed tables hold what they hold when the call begins. -/
import Derived.Test.YtjalknpeecgllaaGreatDoorRows
import Derived.Test.YtjalknpeecgllaaGreatDoorMt13
import Derived.Test.YtjalknpeecgllaaGreatDoorMt11
import Derived.Test.YtjalknpeecgllaaGreatDoorMt6
import Derived.Test.YtjalknpeecgllaaGreatDoorMt0
import Derived.Test.YtjalknpeecgllaaGreatDoorTie
import Derived.Test.YtjalknpeecgllaaGreatDoorCards
import Derived.SevenTiedAt
import Derived.WalkKit
import Derived.ProofKit
import Derived.OpenShut
import Derived.SizedLaws
import Derived.Carry
import Derived.Deep.DeepHandedRow
import Derived.Deep.DeepWitnessRowRef
namespace Go.Proofs.YtjalknpeecgllaaGreatDoor.spaceTurned
open Go.ChangeShapes Go.WideShapes Go.ChangeAt Go.RowKit
open RT XM AM SM
theorem addr_at0 (u k : Nat) : (⟨u, 0, none⟩ : Addr).add k = ⟨u, k, none⟩ := by
  unfold Addr.add
  split
  . next h => rw [h]
  . simp
def rOne : Pg := ⟨1, 1 :: List.replicate 31 0⟩
def xT : List Pg := [rOne, ND.zp, ND.zp, ND.zp, ND.zp, ND.zp, ND.zp, ND.zp]
theorem rOne_ok : Pok rOne := ⟨by decide, SP.aK_ok⟩
theorem xT_ok : ND.Nok xT := ⟨rfl, fun p hp => by
  unfold xT at hp
  simp only [List.mem_cons, List.mem_nil_iff, or_false] at hp
  rcases hp with rfl | rfl | rfl | rfl | rfl | rfl | rfl | rfl
  . exact rOne_ok
  . exact ND.zp_ok
  . exact ND.zp_ok
  . exact ND.zp_ok
  . exact ND.zp_ok
  . exact ND.zp_ok
  . exact ND.zp_ok
  . exact ND.zp_ok⟩
theorem built_s1 : Tryz.prog.built 47 [(0, .int .u8 1)] = some (row8 (1 :: List.replicate 31 0)).toArray := by kernel_rfl
theorem built_r1 : Tryz.prog.built 49 [(0, .int .u32 1), (1, .agg (row8 (1 :: List.replicate 31 0)).toArray)] = some (pc rOne).toArray := built_refN 1 SP.aK_ok
theorem built_x1 : Tryz.prog.built 51 [(0, .agg (pc rOne).toArray)] = some (pcs xT).toArray := by kernel_rfl
/-- What a reading tells of a cluster: that somebody was at it, or that it has the very sum. -/
theorem data_tells {p : SP.Sp} {S : DM.DS} {r : Pg} {b : List Nat} (h : SP.raw p S r = (b, 0)) : (SP.data p S r).2 = 40 \/ ((SP.data p S r).2 = 0 /\ SP.leaf p r.at_ b = r.sum) := by
  unfold SP.data
  rw [h, if_neg (by simp)]
  by_cases c : SP.leaf p r.at_ b = r.sum
  . right
    rw [if_neg (fun q => q c)]
    exact ⟨rfl, c⟩
  . left
    rw [if_pos c]
theorem page_tells {p : SP.Sp} {S : DM.DS} {r : Pg} {b : List Nat} (h : SP.raw p S r = (b, 0)) : (SP.page p S r).2 = 40 \/ ((SP.page p S r).2 = 0 /\ SP.psum b = r.sum) := by
  unfold SP.page
  rw [h, if_neg (by simp)]
  by_cases c : SP.psum b = r.sum
  . right
    rw [if_neg (fun q => q c)]
    exact ⟨rfl, c⟩
  . left
    rw [if_pos c]
theorem node_tells {p : SP.Sp} {S : DM.DS} {r : Pg} {b : List Nat} (h : SP.raw p S r = (b, 0)) : (SP.node p S r).2 = 40 \/ ((SP.node p S r).2 = 0 /\ SP.nsum b = r.sum) := by
  unfold SP.node
  rw [h, if_neg (by simp)]
  by_cases c : SP.nodeOk b r = true
  . right
    rw [if_pos c]
    unfold SP.nodeOk at c
    simp only [Bool.and_eq_true, decide_eq_true_eq] at c
    exact ⟨rfl, c.1.1⟩
  . left
    rw [if_neg c]
theorem data_gone {p : SP.Sp} {S : DM.DS} {r : Pg} (h : SP.raw p S r = ([], 40)) : SP.data p S r = ([], 40) := by unfold SP.data; rw [h, if_pos (by decide)]
theorem page_gone {p : SP.Sp} {S : DM.DS} {r : Pg} (h : SP.raw p S r = ([], 40)) : SP.page p S r = ([], 40) := by unfold SP.page; rw [h, if_pos (by decide)]
theorem take_one {l : List Nat} {k : Nat} (h : k < l.length) : (l.drop k).take 1 = [gb l k] := by
  rw [List.drop_eq_getElem_cons h, List.take_succ_cons, List.take_zero]
  unfold gb
  rw [List.getD_eq_getElem?_getD, List.getElem?_eq_getElem h]
  rfl
theorem own : ownKnob Tryz.prog.godebug = none := by kernel_rfl
theorem cells23 : Tryz.prog.cellsOf 23 = 32 := by kernel_rfl
theorem cells69 : Tryz.prog.cellsOf 69 = 512 := by kernel_rfl
theorem cells71 : Tryz.prog.cellsOf 71 = 2 := by kernel_rfl
theorem cells5 : Tryz.prog.cellsOf 5 = 1 := by kernel_rfl
theorem cells70 : Tryz.prog.cellsOf 70 = 1 := by kernel_rfl
set_option linter.unusedVariables false in
set_option maxHeartbeats 16000000 in
set_option maxRecDepth 100000 in
theorem walk (w : World) (ht : TabX w /\ TabU w /\ TabP w) (l0 : List Nat) (h0 : Bytes 32 l0) (l1 : List Nat) (h1 : Bytes 512 l1) (l2 : List Int) (h2 : IntRow .u16 2 l2) :
    Calls Tryz.prog 6 #[.agg (row8 l0).toArray, .agg (row8 l1).toArray, .agg (rowI .u16 l2).toArray] w fun e w' => e = .returned (.bool true) /\ Below w.heap.size w w' := by
  obtain ⟨tx, tu, tp⟩ := ht
  have HAW := Lib.hid (fun W (hW : Below w.heap.size w W) => spawake_any W (tx.below hW) (tu.below hW) (tp.below hW))
  have HT := Lib.hid (PTabs.start tx tu tp)
  have HB := Lib.hid (fun W (hW : Below w.heap.size w W) => begun_any w.heap.size W hW.size)
  obtain ⟨i0, i1, rfl, wi0, wi1⟩ := IntRow.two h2
  have wi0' : 0 <= i0 /\ i0 <= 65535 := by simpa [Lit.wf, IntKind.min, IntKind.max, IntKind.signed, IntKind.bits] using wi0
  have wi1' : 0 <= i1 /\ i1 <= 65535 := by simpa [Lit.wf, IntKind.min, IntKind.max, IntKind.signed, IntKind.bits] using wi1
  obtain ⟨x0, rfl⟩ : ∃ m : Nat, i0 = (m : Int) := ⟨i0.toNat, by omega⟩
  obtain ⟨x1, rfl⟩ : ∃ m : Nat, i1 = (m : Int) := ⟨i1.toNat, by omega⟩
  obtain ⟨by_, hby⟩ : ∃ x : Nat, x = x1 % 256 := ⟨_, rfl⟩
  have aby : IntKind.u8.wrap (x1 : Int) = (by_ : Int) := by rw [hby, IntKind.wrap_u8]; omega
  have BY := Lib.hid (show by_ < 256 by omega)
  obtain ⟨off, hoff⟩ : ∃ x : Nat, x = x0 % 512 := ⟨_, rfl⟩
  have OFF := Lib.hid (show off < 512 by omega)
  have HOF := Lib.hid (show (x0 : Int) % 512 = (off : Int) /\ (x0 : Int).tmod 512 = (off : Int) /\ IntKind.i64.wrap (off : Int) = (off : Int) by rw [Int.tmod_eq_emod_of_nonneg (by omega), IntKind.wrap_i64]; omega)
  obtain ⟨p, hp⟩ : ∃ p, p = SP.fresh 8 1 l0 := ⟨_, rfl⟩
  have hpo : SP.Ok p := by rw [hp]; exact SP.fresh_ok (by decide) (by decide) l0
  have hper : p.per = 1 := by rw [hp]; rfl
  have hsize : SP.size p = 512 := by unfold SP.size; rw [hper]
  have htag : p.tag = klabel l0 [116, 97, 103] := by rw [hp]; rfl
  have KC32 := Lib.hid (show (row8 l0).length = 32 by rw [row8_len]; exact h0.1)
  have HNW := Lib.hid (fun W d (hW : Below w.heap.size w W) => (show Calls Tryz.prog 12 #[.pointer (some ⟨d, 0, none⟩), .agg #[.int .i64 8, .int .i64 1], .agg (row8 l0).toArray] W fun e w' => ∃ s, e = .returned (.pointer (some ⟨s, 0, none⟩)) /\ Spa (fun k => W.heap.size <= k /\ k < w'.heap.size) w' s d p /\ Below W.heap.size W w' from by rw [hp]; exact spcnew_ok d 8 1 (by decide) (by decide) l0 h0 W (tx.below hW) (tp.below hW)))
  -- the states
  have hbl : l1.length = 512 := h1.1
  have F0 := SP.Few.beg
  have R0 := SP.Roomy.beg hper
  have U0 := SP.beg_up
  obtain ⟨C, hC⟩ : ∃ C, C = SP.sealed p 0 l1 := ⟨_, rfl⟩
  have hCl : C.length = SP.size p := by rw [hC]; exact SP.sealed_len3 hpo 0 (by rw [hbl, hsize])
  have hCb : ∀ k, gb C k < 256 := by rw [hC]; exact SP.sealed_byte hpo 0 l1
  have e1 := SP.putData_room hpo (R0 0 (by decide)) (by decide) (show l1.length = SP.size p by rw [hbl, hsize])
  rw [<- hC] at e1
  have F1 := F0.lay p 0 hCb (by rw [hCl]; exact SP.size_le hpo)
  have R1 := R0.lay (show 0 <= 23 by decide) hCl
  have U1 := SP.lay_up U0 (R0 0 (by decide)) hCl
  obtain ⟨S0, hS0⟩ : ∃ x, x = SP.beg := ⟨_, rfl⟩
  rw [<- hS0] at F0 e1 F1 R1 U1 HB
  obtain ⟨S1, hS1⟩ : ∃ x, x = (SP.lay p S0 0 C).1 := ⟨_, rfl⟩
  rw [<- hS1] at e1 F1 R1 U1
  obtain ⟨PG, hPG⟩ : ∃ x, x = padTo l1 (SP.size p) := ⟨_, rfl⟩
  have hPl : PG.length = SP.size p := by rw [hPG, padTo_len]; omega
  have hPb : ∀ k, gb PG k < 256 := by rw [hPG]; exact padTo_byte _ _ h1.2
  have e2 := SP.putPage_room (R1 1 (by decide)) (show l1.length <= SP.size p by omega)
  rw [<- hPG] at e2
  have F2 := F1.lay p 1 hPb (by rw [hPl]; exact SP.size_le hpo)
  have R2 := R1.lay (show 1 <= 23 by decide) hPl
  have U2 := SP.lay_up U1 (R1 1 (by decide)) hPl
  obtain ⟨S2, hS2⟩ : ∃ x, x = (SP.lay p S1 1 PG).1 := ⟨_, rfl⟩
  rw [<- hS2] at e2 F2 R2 U2
  have e3 := SP.putNode_room hpo (R2 2 (by decide)) xT_ok
  obtain ⟨NB, hNB⟩ : ∃ x, x = SP.nodeBytes p xT := ⟨_, rfl⟩
  have hNl : NB.length = SP.size p := by rw [hNB]; exact SP.nodeBytes_len hpo xT_ok
  have hNb : ∀ k, gb NB k < 256 := by rw [hNB]; unfold SP.nodeBytes; exact SP.padTo_byte' _ (SP.ones_byte3 _ xT_ok.ok)
  rw [<- hNB] at e3
  have F3 := F2.lay p 2 hNb (by rw [hNl]; exact SP.size_le hpo)
  have U3 := SP.lay_up U2 (R2 2 (by decide)) hNl
  obtain ⟨S3, hS3⟩ : ∃ x, x = (SP.lay p S2 2 NB).1 := ⟨_, rfl⟩
  rw [<- hS3] at e3 F3 U3
  have hr1 : Pok ⟨0 + 1, SP.leaf p (0 + 1) C⟩ := ⟨show (0 + 1 : Nat) < 4294967296 by decide, mac_bytes _ _⟩
  have hr2 : Pok ⟨1 + 1, SP.psum PG⟩ := ⟨show (1 + 1 : Nat) < 4294967296 by decide, sha_bytes _⟩
  have hr3 : Pok ⟨2 + 1, SP.nsum NB⟩ := ⟨show (2 + 1 : Nat) < 4294967296 by decide, sha_bytes _⟩
  obtain ⟨s1, hs1⟩ : ∃ x, x = SP.leaf p (0 + 1) C := ⟨_, rfl⟩
  obtain ⟨s2, hs2⟩ : ∃ x, x = SP.psum PG := ⟨_, rfl⟩
  obtain ⟨s3, hs3⟩ : ∃ x, x = SP.nsum NB := ⟨_, rfl⟩
  rw [<- hs1] at e1 hr1
  rw [<- hs2] at e2 hr2
  rw [<- hs3] at e3 hr3
  have H1 := Lib.hid (fun W s d A (h : Laid w.heap.size W s d p A S0) v (hv : Rd W v l1) => (show Calls Tryz.prog 17 #[.pointer (some ⟨s, 0, none⟩), .int .u32 0, v] W fun e w' => e = .returned (.tuple #[.agg (pc ⟨0 + 1, s1⟩).toArray, .int .i64 0]) /\ Laid w.heap.size w' s d p A S1 /\ Kept w.heap.size A W w' by have q := laid_putdata hpo h F0 (by decide) 0 (by decide) l1 v hv; rw [e1] at q; exact q))
  have H2 := Lib.hid (fun W s d A (h : Laid w.heap.size W s d p A S1) v (hv : Rd W v l1) => (show Calls Tryz.prog 19 #[.pointer (some ⟨s, 0, none⟩), .int .u32 1, v] W fun e w' => e = .returned (.tuple #[.agg (pc ⟨1 + 1, s2⟩).toArray, .int .i64 0]) /\ Laid w.heap.size w' s d p A S2 /\ Kept w.heap.size A W w' by have q := laid_putpage hpo h F1 (by decide) 1 (by decide) l1 v hv; rw [e2] at q; exact q))
  have H3 := Lib.hid (fun W s d A (h : Laid w.heap.size W s d p A S2) => (show Calls Tryz.prog 18 #[.pointer (some ⟨s, 0, none⟩), .int .u32 2, .agg (pcs xT).toArray] W fun e w' => e = .returned (.tuple #[.agg (pc ⟨2 + 1, s3⟩).toArray, .int .i64 0]) /\ Laid w.heap.size w' s d p A S3 /\ Kept w.heap.size A W w' by have q := laid_putnode hpo h F2 (by decide) 2 (by decide) xT xT_ok; rw [e3] at q; exact q))
  obtain ⟨AL, hAL⟩ : ∃ x, x = S3.seen := ⟨_, rfl⟩
  have hALl : AL.length = 16384 := by rw [hAL]; exact U3.len
  have hALb : ∀ k, gb AL k < 256 := by rw [hAL]; exact F3.ok.bseen
  have HAL := Lib.hid hALl
  have HBY := Lib.hid (fun W s d A (h : Laid w.heap.size W s d p A S3) => (show Calls Tryz.prog 11 #[.pointer (some ⟨d, 0, none⟩)] W fun e w' => ∃ y, e = .returned y /\ Own w' W.heap.size y AL /\ Below W.heap.size W w' by rw [hAL]; exact laid_bytes h F3 (by decide)))
  obtain ⟨AJ, hAJ⟩ : ∃ f, f = SP.al AL off by_ := ⟨_, rfl⟩
  obtain ⟨SJ, hSJ⟩ : ∃ f, f = SP.st S3 AL off by_ := ⟨_, rfl⟩
  have hst := fun j hj => SP.st_up U3 hAL.symm OFF.out by_ j hj
  have HJ0 := Lib.hid (show AJ 0 = AL /\ SJ 0 = S3 by rw [hAJ, hSJ]; exact ⟨rfl, rfl⟩)
  have HJL := Lib.hid (fun j => (show (AJ j).length = 16384 by rw [hAJ, SP.al_len]; exact hALl))
  have HJB := Lib.hid (fun j => (show ∀ k, gb (AJ j) k < 256 by rw [hAJ]; exact SP.al_byte hALb off BY.out j))
  have HJS := Lib.hid (fun j (hj : j < 3) => (show AJ (j + 1) = (AJ j).set (SP.kof off j) (gb (AJ j) (SP.kof off j) ^^^ by_) /\ SJ (j + 1) = DM.edit (SJ j) (SP.kof off j : Int) [gb (AJ (j + 1)) (SP.kof off j)] /\ gb (AJ (j + 1)) (SP.kof off j) = gb (AJ j) (SP.kof off j) ^^^ by_ by rw [hAJ, hSJ]; exact ⟨rfl, rfl, SP.al_at AL off by_ j (by have := OFF.out; unfold SP.kof; omega)⟩))
  have hfj : ∀ j, SP.Few (SJ j) 3 := by
    intro j
    induction j with
    | zero => rw [HJ0.out.2]; exact F3
    | succ j ih =>
      by_cases hj : j < 3
      . rw [(HJS.out j hj).2.1]
        exact ih.edit _ (fun k => by cases k with | zero => exact HJB.out (j + 1) _ | succ k => exact Nat.zero_lt_succ _)
      . rw [hSJ]
        show SP.Few (DM.edit _ _ _) 3
        rw [<- hSJ]
        exact ih.edit _ (fun k => by cases k with | zero => rw [<- hAJ]; exact HJB.out (j + 1) _ | succ k => exact Nat.zero_lt_succ _)
  have HED := Lib.hid (fun W s d A j (hj : j < 3) v (h : Laid w.heap.size W s d p A (SJ j)) (hv : Rd W v [gb (AJ (j + 1)) (SP.kof off j)]) (hne : 0 < [gb (AJ (j + 1)) (SP.kof off j)].length -> ∀ g, v.ownBlock = some g -> g < w.heap.size \/ A g) => (show Calls Tryz.prog 20 #[.pointer (some ⟨d, 0, none⟩), .int .i64 (SP.kof off j : Int), v] W fun e w' => e = .returned (.tuple #[]) /\ Laid w.heap.size w' s d p A (SJ (j + 1)) /\ Kept w.heap.size A W w' by
    rw [(HJS.out j hj).2.1]
    exact laid_edit h (hfj j) (by decide) _ ⟨by omega, by have := OFF.out; unfold SP.kof; omega⟩ v _ hv (by simp) hne))
  obtain ⟨AE, hAE⟩ : ∃ x, x = AJ 3 := ⟨_, rfl⟩
  obtain ⟨SE, hSE⟩ : ∃ x, x = SJ 3 := ⟨_, rfl⟩
  have HAE := Lib.hid hAE
  have HSE := Lib.hid hSE
  have FE : SP.Few SE 3 := by rw [hSE]; exact hfj 3
  have UE := (hst 3 (by decide)).1
  have sE := (hst 3 (by decide)).2
  rw [<- hAJ, <- hSJ, <- hSE, <- hAE] at sE
  rw [<- hSJ, <- hSE] at UE
  have hAEl : AE.length = 16384 := by rw [hAE]; exact HJL.out 3
  have w1_ := SP.raw_up hper UE (show 0 <= 23 by decide) s1
  have w2_ := SP.raw_up hper UE (show 1 <= 23 by decide) s2
  have w3_ := SP.raw_up hper UE (show 2 <= 23 by decide) s3
  rw [sE] at w1_ w2_ w3_
  obtain ⟨P0, hP0⟩ : ∃ x, x = (AE.drop 4096).take 512 := ⟨_, rfl⟩
  obtain ⟨P1, hP1⟩ : ∃ x, x = (AE.drop 4608).take 512 := ⟨_, rfl⟩
  obtain ⟨P2, hP2⟩ : ∃ x, x = (AE.drop 5120).take 512 := ⟨_, rfl⟩
  have w1' : SP.raw p SE ⟨0 + 1, s1⟩ = (P0, 0) := by rw [hP0]; exact w1_
  have w2' : SP.raw p SE ⟨1 + 1, s2⟩ = (P1, 0) := by rw [hP1]; exact w2_
  have w3' : SP.raw p SE ⟨2 + 1, s3⟩ = (P2, 0) := by rw [hP2]; exact w3_
  have T1 := data_tells w1'
  have T2 := page_tells w2'
  have T3 := node_tells w3'
  obtain ⟨hv, hhv⟩ : ∃ x, x = (SP.data p SE ⟨0 + 1, s1⟩).2 := ⟨_, rfl⟩
  obtain ⟨iv, hiv⟩ : ∃ x, x = (SP.page p SE ⟨1 + 1, s2⟩).2 := ⟨_, rfl⟩
  obtain ⟨jv, hjv⟩ : ∃ x, x = (SP.node p SE ⟨2 + 1, s3⟩).2 := ⟨_, rfl⟩
  rw [<- hhv] at T1
  rw [<- hiv] at T2
  rw [<- hjv] at T3
  obtain ⟨XN, hXN⟩ : ∃ x, x = pcs (SP.node p SE ⟨2 + 1, s3⟩).1 := ⟨_, rfl⟩
  have HD1 := Lib.hid (fun W s d A (h : Laid w.heap.size W s d p A SE) => (show Calls Tryz.prog 14 #[.pointer (some ⟨s, 0, none⟩), .agg (pc ⟨0 + 1, s1⟩).toArray] W fun e w' => ∃ y, e = .returned (.tuple #[y, .int .i64 hv]) /\ Below W.heap.size W w' by rw [hhv]; exact (laid_data hpo h FE (by decide) _ hr1).mono fun _ _ hh => by obtain ⟨y, he, _, _, hb⟩ := hh; exact ⟨y, he, hb⟩))
  have HP1 := Lib.hid (fun W s d A (h : Laid w.heap.size W s d p A SE) => (show Calls Tryz.prog 16 #[.pointer (some ⟨s, 0, none⟩), .agg (pc ⟨1 + 1, s2⟩).toArray] W fun e w' => ∃ y, e = .returned (.tuple #[y, .int .i64 iv]) /\ Below W.heap.size W w' by rw [hiv]; exact (laid_page hpo h FE (by decide) _ hr2).mono fun _ _ hh => by obtain ⟨y, he, _, hb⟩ := hh; exact ⟨y, he, hb⟩))
  have HN1 := Lib.hid (fun W s d A (h : Laid w.heap.size W s d p A SE) => (show Calls Tryz.prog 15 #[.pointer (some ⟨s, 0, none⟩), .agg (pc ⟨2 + 1, s3⟩).toArray] W fun e w' => e = .returned (.tuple #[.agg XN.toArray, .int .i64 jv]) /\ Below W.heap.size W w' by rw [hjv, hXN]; exact laid_node hpo h FE (by decide) _ hr3))
  have hnk : ND.Nok (SP.node p SE ⟨2 + 1, s3⟩).1 := SP.node_nok FE.ok _
  have XN264 := Lib.hid (show XN.length = 264 by rw [hXN]; exact ND.pcs_len8 hnk)
  have XN1 := Lib.hid (show XN.toArray.all (·.oneCell') = true by rw [hXN, List.all_toArray, List.all_eq_true]; exact pcs_one' _)
  have hcut : (AE.take 4200).length = 4200 := by rw [List.length_take]; omega
  have hld := SP.load_short UE hcut
  obtain ⟨CUT, hCUT⟩ : ∃ x, x = AE.take 4200 := ⟨_, rfl⟩
  rw [<- hCUT] at hcut hld
  obtain ⟨SL, hSL⟩ : ∃ x, x = DM.load SE CUT := ⟨_, rfl⟩
  have FL : SP.Few SL 3 := by rw [hSL]; exact FE.load (by rw [hCUT]; exact gb_take_byte _ _ (by rw [hAE]; exact HJB.out 3))
  rw [<- hSL] at hld
  have g1 := SP.raw_short hper (S := SL) (by rw [hld]; exact UE.down) (by rw [hld]; exact hcut) (show 0 <= 23 by decide) s1
  have g2 := SP.raw_short hper (S := SL) (by rw [hld]; exact UE.down) (by rw [hld]; exact hcut) (show 1 <= 23 by decide) s2
  have d1 := data_gone g1
  have d2 := page_gone g2
  have HLD := Lib.hid (fun W s d A v (h : Laid w.heap.size W s d p A SE) (hv : Rd W v CUT) (hne : 0 < CUT.length -> ∀ g, v.ownBlock = some g -> g < w.heap.size \/ A g) => (show Calls Tryz.prog 23 #[.pointer (some ⟨d, 0, none⟩), v] W fun e w' => e = .returned (.tuple #[]) /\ Laid w.heap.size w' s d p A SL /\ Kept w.heap.size A W w' by rw [hSL]; exact laid_load h FE (by decide) v CUT hv hne))
  have HD2 := Lib.hid (fun W s d A (h : Laid w.heap.size W s d p A SL) => (show Calls Tryz.prog 14 #[.pointer (some ⟨s, 0, none⟩), .agg (pc ⟨0 + 1, s1⟩).toArray] W fun e w' => ∃ y, e = .returned (.tuple #[y, .int .i64 40]) /\ Below W.heap.size W w' by have q := laid_data hpo h FL (by decide) ⟨0 + 1, s1⟩ hr1; rw [d1] at q; exact q.mono fun _ _ hh => by obtain ⟨y, he, _, _, hb⟩ := hh; exact ⟨y, he, hb⟩))
  have HP2 := Lib.hid (fun W s d A (h : Laid w.heap.size W s d p A SL) => (show Calls Tryz.prog 16 #[.pointer (some ⟨s, 0, none⟩), .agg (pc ⟨1 + 1, s2⟩).toArray] W fun e w' => ∃ y, e = .returned (.tuple #[y, .int .i64 40]) /\ Below W.heap.size W w' by have q := laid_page hpo h FL (by decide) ⟨1 + 1, s2⟩ hr2; rw [d2] at q; exact q.mono fun _ _ hh => by obtain ⟨y, he, _, hb⟩ := hh; exact ⟨y, he, hb⟩))
  have HSM := Lib.hid (fun W v (hW : Below w.heap.size w W) (hv : Rd W v P0) => (show Calls Tryz.prog 24 #[.agg (row8 l0).toArray, v, .agg (pc ⟨0 + 1, s1⟩).toArray] W fun e w' => e = .returned (.bool (decide (SP.leaf p (0 + 1) P0 = s1))) /\ Below W.heap.size W w' by
    have q := spsame_any l0 h0 P0 v ⟨0 + 1, s1⟩ hr1 W hv (tp.below hW)
    rw [<- htag] at q
    exact q))
  have HPS := Lib.hid (fun W v (hW : Below w.heap.size w W) (hv : Rd W v P1) => nppage_any P1 v W hv (tp.below hW))
  have HNS := Lib.hid (fun W v (hW : Below w.heap.size w W) (hv : Rd W v P2) => npsum_any P2 v W hv (tp.below hW))
  have RC33 := Lib.hid (pc_len hr1)
  have RC1 := Lib.hid (one_pg ⟨0 + 1, s1⟩)
  have PC33 := Lib.hid (pc_len hr2)
  have PC1 := Lib.hid (one_pg ⟨1 + 1, s2⟩)
  have NC33 := Lib.hid (pc_len hr3)
  have NC1 := Lib.hid (one_pg ⟨2 + 1, s3⟩)
  have hRS : ∀ (n : Nat) (x : List Nat) W b, Blk W b 49 (pc ⟨n, x⟩) -> W.rangeAt b 1 (row8 x) := fun n x W b h => range_part h 1 _ (pc_tail ⟨n, x⟩)
  have HRS2 := Lib.hid (fun W b => hRS (1 + 1) s2 W b)
  have HRS3 := Lib.hid (fun W b => hRS (2 + 1) s3 W b)
  have SM232 := Lib.hid (show (row8 s2).length = 32 by rw [row8_len]; exact hr2.2.1)
  have SM332 := Lib.hid (show (row8 s3).length = 32 by rw [row8_len]; exact hr3.2.1)
  have HE2 := Lib.hid (fun (h : SP.psum P1 = s2) W => (show (binOp .neq 47 (.agg (row8 (SM.sha ([112, 97, 103, 101] ++ P1))).toArray) (.agg (row8 s2).toArray)).run Tryz.prog W = .ok (.bool false) W by rw [run_neq_sum (sha_bytes _) hr2.2, decide_eq_true (show SM.sha ([112, 97, 103, 101] ++ P1) = (⟨1 + 1, s2⟩ : Pg).sum from h)]; rfl))
  have HE3 := Lib.hid (fun (h : SP.nsum P2 = s3) W => (show (binOp .neq 47 (.agg (row8 (SM.sha ([110, 111, 100, 101] ++ P2))).toArray) (.agg (row8 s3).toArray)).run Tryz.prog W = .ok (.bool false) W by rw [run_neq_sum (sha_bytes _) hr3.2, decide_eq_true (show SM.sha ([110, 111, 100, 101] ++ P2) = (⟨2 + 1, s3⟩ : Pg).sum from h)]; rfl))
  have HE1 := Lib.hid (fun (h : SP.leaf p (0 + 1) P0 = s1) => (show decide (SP.leaf p (0 + 1) P0 = s1) = true from decide_eq_true h))
  obtain ⟨DB, hDB⟩ : ∃ x : Bool, x = decide (SP.leaf p (0 + 1) P0 = s1) := ⟨_, rfl⟩
  rw [<- hDB] at HSM HE1
  obtain ⟨Q2, hQ2⟩ : ∃ x, x = row8 (SM.sha ([112, 97, 103, 101] ++ P1)) := ⟨_, rfl⟩
  obtain ⟨Q3, hQ3⟩ : ∃ x, x = row8 (SM.sha ([110, 111, 100, 101] ++ P2)) := ⟨_, rfl⟩
  rw [<- hQ2] at HPS HE2
  rw [<- hQ3] at HNS HE3
  obtain ⟨SM2, hSM2⟩ : ∃ x, x = row8 s2 := ⟨_, rfl⟩
  obtain ⟨SM3, hSM3⟩ : ∃ x, x = row8 s3 := ⟨_, rfl⟩
  rw [<- hSM2] at HRS2 SM232 HE2
  rw [<- hSM3] at HRS3 SM332 HE3
  obtain ⟨RC, hRC⟩ : ∃ x, x = pc ⟨0 + 1, s1⟩ := ⟨_, rfl⟩
  obtain ⟨PC, hPC⟩ : ∃ x, x = pc ⟨1 + 1, s2⟩ := ⟨_, rfl⟩
  obtain ⟨NC, hNC⟩ : ∃ x, x = pc ⟨2 + 1, s3⟩ := ⟨_, rfl⟩
  rw [<- hRC] at RC33 RC1 H1 HD1 HD2 HSM
  rw [<- hPC] at PC33 PC1 H2 HP1 HP2 HRS2
  rw [<- hNC] at NC33 NC1 H3 HN1 HRS3
  have HX := Lib.hid built_x1
  have HR := Lib.hid built_r1
  have HS := Lib.hid built_s1
  obtain ⟨XC, hXC⟩ : ∃ x, x = pcs xT := ⟨_, rfl⟩
  rw [<- hXC] at HX H3
  obtain ⟨O1, hO1⟩ : ∃ x, x = pc rOne := ⟨_, rfl⟩
  rw [<- hO1] at HX HR
  obtain ⟨Z1, hZ1⟩ : ∃ x, x = row8 (1 :: List.replicate 31 0) := ⟨_, rfl⟩
  rw [<- hZ1] at HR HS
  obtain ⟨RZ, hRZ⟩ : ∃ x, x = pc ND.zp := ⟨_, rfl⟩
  have hz2 : ∀ w, (zeroValue 49).run Tryz.prog w = .ok (.agg RZ.toArray) w := by rw [hRZ]; exact zeroRfP
  have RZ33 := Lib.hid (show RZ.length = 33 by rw [hRZ]; exact pc_len ND.zp_ok)
  obtain ⟨ZN, hZN⟩ : ∃ x, x = pcs ND.zn := ⟨_, rfl⟩
  have hz1 : ∀ w, (zeroValue 51).run Tryz.prog w = .ok (.agg ZN.toArray) w := by rw [hZN]; exact zeroNdP
  have ZN264 := Lib.hid (show ZN.length = 264 by rw [hZN]; rfl)
  obtain ⟨KC, hKC⟩ : ∃ x, x = row8 l0 := ⟨_, rfl⟩
  rw [<- hKC] at HNW KC32 HSM ⊢
  have HRE := Lib.hid (fun W (h : Blk W (w.heap.size + 1) 69 (row8 l1)) => (show Rd W (.slice (some ⟨w.heap.size + 1, 0, none⟩) 512 512) l1 by
    have q := blk_rd_at h h1.2 0 512 512 (by rw [hbl]; omega) (Nat.le_refl _) (by rw [hbl]; omega)
    rw [List.drop_zero, List.take_of_length_le (by rw [hbl]; exact Nat.le_refl _)] at q
    exact q))
  obtain ⟨EC, hEC⟩ : ∃ x, x = row8 l1 := ⟨_, rfl⟩
  rw [<- hEC] at HRE ⊢
  obtain ⟨HW, hHW⟩ : ∃ X, X = rowI .u16 [(x0 : Int), (x1 : Int)] := ⟨_, rfl⟩
  have H0c := Lib.hid (show HW[0]? = some (.int .u16 (x0 : Int)) by rw [hHW]; rfl)
  have H1c := Lib.hid (show HW[1]? = some (.int .u16 (x1 : Int)) by rw [hHW]; rfl)
  rw [<- hHW]
  obtain ⟨w1, hw1⟩ : ∃ x, x = ((w.alloc (.cells KC.toArray 23)).alloc (.cells EC.toArray 69)).alloc (.cells HW.toArray 71) := ⟨_, rfl⟩
  have W1 := Lib.hid (show Below w.heap.size w w1 by rw [hw1]; exact (((Below.refl w.heap.size w).alloc (Nat.le_refl _) _).alloc (by simp) _).alloc (by simp; omega) _)
  have K1 := Lib.hid (show Blk w1 w.heap.size 23 KC by rw [hw1]; exact ((Blk.new w 23 KC _ rfl).alloc _).alloc _)
  have E1 := Lib.hid (show Blk w1 (w.heap.size + 1) 69 EC by rw [hw1]; exact (Blk.new _ 69 EC (w.heap.size + 1) (by simp)).alloc _)
  have G1 := Lib.hid (show Blk w1 (w.heap.size + 1 + 1) 71 HW by rw [hw1]; exact Blk.new _ 71 HW (w.heap.size + 1 + 1) (by simp))
  have c1 := G1.out.cell 1 _ H1c.out
  have HP0 := Lib.hid hP0
  have HP1e := Lib.hid hP1
  have HP2e := Lib.hid hP2
  have HCUT := Lib.hid hCUT
  have HAEl := Lib.hid hAEl
  clear hKC hEC hHW hRZ hZN hXC hO1 hZ1 hRC hPC hNC hSM2 hSM3 hQ2 hQ3 hDB hRS hP0 hP1 hP2 hCUT hAEl hSL hld hcut g1 g2 d1 d2 FL hnk hXN hhv hiv hjv w1_ w2_ w3_ w1' w2' w3' sE UE FE hAE hSE hfj hst hAJ hSJ hAL hALl hALb hr1 hr2 hr3 hs1 hs2 hs3 e1 e2 e3 F0 F1 F2 F3 R0 R1 R2 U0 U1 U2 U3 hS0 hS1 hS2 hS3 hNB hNl hNb hPG hPl hPb hC hCl hCb hbl hp hpo hper hsize htag h0 h1 h2 tx tu tp hby hoff wi0 wi1 wi0' wi1'
  have HTT := True.intro
  have T1 := Lib.hid T1
  have T2 := Lib.hid T2
  have T3 := Lib.hid T3
  by_cases hb0 : by_ = 0
  . have aby0 : IntKind.u8.wrap (x1 : Int) = 0 := by rw [aby, hb0]; rfl
    clear aby hb0
    go_enter Tryz.func6, Tryz.ntmps6
    go_upto_region 1 with fail
    rw [<- hw1]
    clear hw1
    go_wp2_with (go_at_call 8; (with_reducible refine (HAW.out _ W1.out).mono ?_); rintro e w2 ⟨rfl, bb⟩; have W2 := Lib.hid (W1.out.on bb); clear bb)
    go_ret
    exact ⟨rfl, W2.out⟩
  . have hbb : ((by_ : Int) == 0) = false := by rw [beq_eq_false_iff_ne]; omega
    have hbn : ¬ (by_ : Int) = 0 := by omega
    go_enter Tryz.func6, Tryz.ntmps6
    go_upto_region 1 with fail
    rw [<- hw1]
    clear hw1
    go_wp2_with (first
      | (go_at_call 13; (with_reducible refine (HB.out _ W1.out).mono ?_); rintro e w2 ⟨d, rfl, d2, bb⟩; have D2 := Lib.hid d2; have K2 := Lib.hid (K1.out.below bb K1.out.lt); have E2 := Lib.hid (E1.out.below bb E1.out.lt); have G2 := Lib.hid (G1.out.below bb G1.out.lt); have W2 := Lib.hid (W1.out.on bb); clear d2 bb)
      | ((with_reducible show wpList _ _ _ (Oper.mk (some 37) (.build _ _) _ _ _ _ :: _) _ _); refine wpList_wanted rfl (.agg #[.int .i64 8, .int .i64 1]) (ex_build rfl (by kernel_rfl)) ?_)
      | ((with_reducible show wpList _ _ _ (Oper.mk (some 38) (.load _ (.tmp 3)) _ _ _ _ :: _) _ _); refine wpList_load_wanted rfl 23 (.tmp 3) rfl w.heap.size 0 rfl KC _ K2.out.range Tryz.underlying23 rfl (by rw [KC32.out]; exact infoKeyP) ?_)
      | (go_at_call 12; (with_reducible refine (HNW.out _ d W2.out).mono ?_); rintro e w3 ⟨s, rfl, hs, bb⟩; obtain ⟨A3, l3, i3⟩ : ∃ A, Laid w.heap.size w3 s d p A S0 /\ ∀ k, w.heap.size <= k -> k < w1.heap.size -> A k := ⟨_, laid_new D2.out (HT.out.below W2.out) hs bb, fun k h1 h2 => .inl ⟨h1, h2⟩⟩; have L3 := Lib.hid l3; have K3 := Lib.hid (K2.out.below bb K2.out.lt); have E3 := Lib.hid (E2.out.below bb E2.out.lt); have G3 := Lib.hid (G2.out.below bb G2.out.lt); have W3 := Lib.hid (W2.out.on bb); have MK3 := Lib.hid (i3 _ (Nat.le_refl _) K1.out.lt); have ME3 := Lib.hid (i3 _ (Nat.le_succ _) E1.out.lt); have MG3 := Lib.hid (i3 _ (by omega) G1.out.lt); clear hs bb l3 i3)
      | (go_at_call 17; (with_reducible refine (H1.out w3 s d _ L3.out _ (HRE.out _ E3.out)).mono ?_); rintro e w4 ⟨rfl, ll, kk⟩; have L4 := Lib.hid ll; have K4 := Lib.hid (K3.out.kept kk (.inr MK3.out)); have MK4 := MK3; have E4 := Lib.hid (E3.out.kept kk (.inr ME3.out)); have ME4 := ME3; have G4 := Lib.hid (G3.out.kept kk (.inr MG3.out)); have MG4 := MG3; have W4 := Lib.hid (kk.below W3.out W3.out.size); clear kk ll)
      | ((with_reducible show wpList _ _ _ (Oper.mk _ (.store _ (.tmp 10) (.tmp 44)) _ _ _ _ :: _) _ _); refine wpList_store_blk rfl 49 (.tmp 10) (.tmp 44) rfl w4.heap.size 0 RC rfl rfl 49 RZ (Blk.new w4 49 RZ _ rfl) (by have := RC33.out; have := RZ33.out; omega) (by rw [RC33.out]; exact infoRfQ) RC1.out ?_; intro w5 b' g'; rw [splice_all _ _ (by rw [RC33.out, RZ33.out])] at b'; have bb := alloc_turn (Below.refl _ _) g'; have K5 := Lib.hid (K4.out.below bb K4.out.lt); have E5 := Lib.hid (E4.out.below bb E4.out.lt); have G5 := Lib.hid (G4.out.below bb G4.out.lt); have W5 := Lib.hid (W4.out.on bb); obtain ⟨A5, l', i', n'⟩ := L4.out.own2 bb; have L5 := Lib.hid l'; have MK5 := Lib.hid (i' _ MK4.out); have ME5 := Lib.hid (i' _ ME4.out); have MG5 := Lib.hid (i' _ MG4.out); have X5 := Lib.hid (b'); have MX5 := Lib.hid (n' _ (Nat.le_refl _) b'.lt); clear bb l' i' n'; clear b' g'; obtain ⟨rX, hrX⟩ : ∃ x, x = w4.heap.size := ⟨_, rfl⟩; rw [<- hrX] at X5 MX5 ⊢; clear hrX)
      | (go_at_call 19; (with_reducible refine (H2.out w5 s d _ L5.out _ (HRE.out _ E5.out)).mono ?_); rintro e w6 ⟨rfl, ll, kk⟩; have L6 := Lib.hid ll; have K6 := Lib.hid (K5.out.kept kk (.inr MK5.out)); have MK6 := MK5; have E6 := Lib.hid (E5.out.kept kk (.inr ME5.out)); have ME6 := ME5; have G6 := Lib.hid (G5.out.kept kk (.inr MG5.out)); have MG6 := MG5; have X6 := Lib.hid (X5.out.kept kk (.inr MX5.out)); have MX6 := MX5; have W6 := Lib.hid (kk.below W5.out W5.out.size); clear kk ll)
      | ((with_reducible show wpList _ _ _ (Oper.mk _ (.store _ (.tmp 12) (.tmp 50)) _ _ _ _ :: _) _ _); refine wpList_store_blk rfl 49 (.tmp 12) (.tmp 50) rfl w6.heap.size 0 PC rfl rfl 49 RZ (Blk.new w6 49 RZ _ rfl) (by have := PC33.out; have := RZ33.out; omega) (by rw [PC33.out]; exact infoRfQ) PC1.out ?_; intro w7 b' g'; rw [splice_all _ _ (by rw [PC33.out, RZ33.out])] at b'; have bb := alloc_turn (Below.refl _ _) g'; have K7 := Lib.hid (K6.out.below bb K6.out.lt); have E7 := Lib.hid (E6.out.below bb E6.out.lt); have G7 := Lib.hid (G6.out.below bb G6.out.lt); have X7 := Lib.hid (X6.out.below bb X6.out.lt); have W7 := Lib.hid (W6.out.on bb); obtain ⟨A7, l', i', n'⟩ := L6.out.own2 bb; have L7 := Lib.hid l'; have MK7 := Lib.hid (i' _ MK6.out); have ME7 := Lib.hid (i' _ ME6.out); have MG7 := Lib.hid (i' _ MG6.out); have MX7 := Lib.hid (i' _ MX6.out); have P7 := Lib.hid (b'); have MP7 := Lib.hid (n' _ (Nat.le_refl _) b'.lt); clear bb l' i' n'; clear b' g'; obtain ⟨rP, hrP⟩ : ∃ x, x = w6.heap.size := ⟨_, rfl⟩; rw [<- hrP] at P7 MP7 ⊢; clear hrP)
      | ((with_reducible show wpList _ _ _ (Oper.mk (some 54) (.build _ _) _ _ _ _ :: _) _ _); refine wpList_wanted rfl (.agg Z1.toArray) (ex_build rfl (by simp only [List.map_toArray, List.map_cons, List.map_nil]; exact HS.out)) ?_)
      | ((with_reducible show wpList _ _ _ (Oper.mk (some 55) (.build _ _) _ _ _ _ :: _) _ _); refine wpList_wanted rfl (.agg O1.toArray) (ex_build rfl (by simp only [List.map_toArray, List.map_cons, List.map_nil]; exact HR.out)) ?_)
      | ((with_reducible show wpList _ _ _ (Oper.mk (some 56) (.build _ _) _ _ _ _ :: _) _ _); refine wpList_wanted rfl (.agg XC.toArray) (ex_build rfl (by simp only [List.map_toArray, List.map_cons, List.map_nil]; exact HX.out)) ?_)
      | (go_at_call 18; (with_reducible refine (H3.out w7 s d _ L7.out).mono ?_); rintro e w8 ⟨rfl, ll, kk⟩; have L8 := Lib.hid ll; have K8 := Lib.hid (K7.out.kept kk (.inr MK7.out)); have MK8 := MK7; have E8 := Lib.hid (E7.out.kept kk (.inr ME7.out)); have ME8 := ME7; have G8 := Lib.hid (G7.out.kept kk (.inr MG7.out)); have MG8 := MG7; have X8 := Lib.hid (X7.out.kept kk (.inr MX7.out)); have MX8 := MX7; have P8 := Lib.hid (P7.out.kept kk (.inr MP7.out)); have MP8 := MP7; have W8 := Lib.hid (kk.below W7.out W7.out.size); clear kk ll)
      | ((with_reducible show wpList _ _ _ (Oper.mk _ (.store _ (.tmp 14) (.tmp 58)) _ _ _ _ :: _) _ _); refine wpList_store_blk rfl 49 (.tmp 14) (.tmp 58) rfl w8.heap.size 0 NC rfl rfl 49 RZ (Blk.new w8 49 RZ _ rfl) (by have := NC33.out; have := RZ33.out; omega) (by rw [NC33.out]; exact infoRfQ) NC1.out ?_; intro w9 b' g'; rw [splice_all _ _ (by rw [NC33.out, RZ33.out])] at b'; have bb := alloc_turn (Below.refl _ _) g'; have K9 := Lib.hid (K8.out.below bb K8.out.lt); have E9 := Lib.hid (E8.out.below bb E8.out.lt); have G9 := Lib.hid (G8.out.below bb G8.out.lt); have X9 := Lib.hid (X8.out.below bb X8.out.lt); have P9 := Lib.hid (P8.out.below bb P8.out.lt); have W9 := Lib.hid (W8.out.on bb); obtain ⟨A9, l', i', n'⟩ := L8.out.own2 bb; have L9 := Lib.hid l'; have MK9 := Lib.hid (i' _ MK8.out); have ME9 := Lib.hid (i' _ ME8.out); have MG9 := Lib.hid (i' _ MG8.out); have MX9 := Lib.hid (i' _ MX8.out); have MP9 := Lib.hid (i' _ MP8.out); have Q9 := Lib.hid (b'); have MQ9 := Lib.hid (n' _ (Nat.le_refl _) b'.lt); clear bb l' i' n'; clear b' g'; obtain ⟨rQ, hrQ⟩ : ∃ x, x = w8.heap.size := ⟨_, rfl⟩; rw [<- hrQ] at Q9 MQ9 ⊢; clear hrQ)
      | (go_at_call 11; (with_reducible refine (HBY.out w9 s d _ L9.out).mono ?_); rintro e w10 ⟨y, rfl, oy, bb⟩; obtain ⟨ya, cp, rfl, hcp⟩ := oy.rd.shape; rw [HAL.out] at oy hcp ⊢; obtain ⟨u, rfl⟩ := own_at oy (by rw [HAL.out]; decide); have K10 := Lib.hid (K9.out.below bb K9.out.lt); have G10 := Lib.hid (G9.out.below bb G9.out.lt); have X10 := Lib.hid (X9.out.below bb X9.out.lt); have P10 := Lib.hid (P9.out.below bb P9.out.lt); have Q10 := Lib.hid (Q9.out.below bb Q9.out.lt); have W10 := Lib.hid (W9.out.on bb); obtain ⟨A10, l', i', n'⟩ := L9.out.own2 bb; have L10 := Lib.hid l'; have MK10 := Lib.hid (i' _ MK9.out); have MG10 := Lib.hid (i' _ MG9.out); have MX10 := Lib.hid (i' _ MX9.out); have MP10 := Lib.hid (i' _ MP9.out); have MQ10 := Lib.hid (i' _ MQ9.out); have MO10 := Lib.hid (n' u (oy.from u rfl).1 (oy.from u rfl).2); have UB := Lib.hid (Nat.le_trans W9.out.size (oy.from u rfl).1); clear bb l' i' n'; have O10 := Lib.hid (oy.lower W9.out.size); clear oy))
    have HCP := Lib.hid hcp
    clear hcp
    go_loopw [17] (fun i wr => ∃ (j : Nat) (A : Nat -> Prop), j <= 3 /\ i = .int .i64 (j : Int) /\ Own wr w.heap.size (.slice (some ⟨u, 0, none⟩) 16384 cp) (AJ j) /\ Laid w.heap.size wr s d p A (SJ j) /\ A u /\ Blk wr w.heap.size 23 KC /\ A w.heap.size /\ Blk wr (w.heap.size + 1 + 1) 71 HW /\ A (w.heap.size + 1 + 1) /\ Blk wr rX 49 RC /\ A rX /\ Blk wr rP 49 PC /\ A rP /\ Blk wr rQ 49 NC /\ A rQ /\ Below w.heap.size w wr) (fun i _ => 3 - (intOf i).toNat)
    case atStart => exact ⟨0, A10, by omega, rfl, by rw [HJ0.out.1]; exact O10.out, by rw [HJ0.out.2]; exact L10.out, MO10.out, K10.out, MK10.out, G10.out, MG10.out, X10.out, MX10.out, P10.out, MP10.out, Q10.out, MQ10.out, W10.out⟩
    case round =>
      obtain ⟨j, A7, hj, rfl, o7, l7, mo7, k7, mk7, g7, mg7, x7, mx7, p7, mp7, q7, mq7, b7⟩ := hrel
      have O7 := Lib.hid o7
      have L7 := Lib.hid l7
      have MO7 := Lib.hid mo7
      have W7 := Lib.hid b7
      have K7 := Lib.hid k7
      have MK7 := Lib.hid mk7
      have G7 := Lib.hid g7
      have MG7 := Lib.hid mg7
      have X7 := Lib.hid x7
      have MX7 := Lib.hid mx7
      have P7 := Lib.hid p7
      have MP7 := Lib.hid mp7
      have Q7 := Lib.hid q7
      have MQ7 := Lib.hid mq7
      clear o7 l7 mo7 b7 k7 mk7 g7 mg7 x7 mx7 p7 mp7 q7 mq7
      by_cases hlt : j < 3
      . have hltI : (j : Int) < 3 := by omega
        obtain ⟨kj, hkj⟩ : ∃ k, k = SP.kof off j := ⟨_, rfl⟩
        have hk16 : kj < 16384 := by have := OFF.out; rw [hkj]; unfold SP.kof; omega
        obtain ⟨q1, hq1⟩ : ∃ q, q = 512 * j := ⟨_, rfl⟩
        obtain ⟨q2, hq2⟩ : ∃ q, q = 4096 + q1 := ⟨_, rfl⟩
        obtain ⟨m1, hm1⟩ : ∃ q, q = kj + 1 := ⟨_, rfl⟩
        have a1 : IntKind.i64.wrap (512 * (j : Int)) = (q1 : Int) := by rw [IntKind.wrap_i64]; omega
        have a2 : IntKind.i64.wrap (4096 + (q1 : Int)) = (q2 : Int) := by rw [IntKind.wrap_i64]; omega
        have a3 : IntKind.i64.wrap ((q2 : Int) + (off : Int)) = (kj : Int) := by have := OFF.out; rw [IntKind.wrap_i64, hkj]; unfold SP.kof; omega
        have a4 : IntKind.i64.wrap ((kj : Int) + 1) = (m1 : Int) := by rw [IntKind.wrap_i64]; omega
        obtain ⟨hf1, hf2, hf3⟩ := HOF.out
        have cg := G7.out.cell 0 _ H0c.out
        have co := O7.out.cell (HJL.out j).symm kj (by rw [HJL.out]; exact hk16)
        have fo := O7.out.free (HJL.out j).symm kj
        obtain ⟨x8, hx8⟩ : ∃ x, x = gb (AJ j) kj := ⟨_, rfl⟩
        have hx256 : x8 < 256 := by rw [hx8]; exact HJB.out j kj
        have axor : bits .xor .u8 (x8 : Int) (by_ : Int) = ((x8 ^^^ by_ : Nat) : Int) := u8_xor_nat x8 by_ hx256 BY.out
        have hn256 : x8 ^^^ by_ < 256 := Nat.xor_lt_two_pow (n := 8) hx256 BY.out
        obtain ⟨nb, hnb⟩ : ∃ n, n = x8 ^^^ by_ := ⟨_, rfl⟩
        rw [<- hnb] at axor hn256
        rw [<- hx8] at co
        obtain ⟨hs1, hs2, hs3⟩ := HJS.out j hlt
        rw [<- hkj] at hs1 hs3
        rw [<- hx8, <- hnb] at hs1 hs3
        obtain ⟨V, hV⟩ : ∃ V, V = wr.setCell ⟨u, kj, none⟩ (.int .u8 (nb : Int)) := ⟨_, rfl⟩
        have hg : wr.grownBy V (some u) := by rw [hV]; exact grownBy_cell wr u kj (.int .u8 (nb : Int))
        have O8 := Lib.hid (show Own V w.heap.size (.slice (some ⟨u, 0, none⟩) 16384 cp) (AJ (j + 1)) by
          have h := O7.out
          have hl := HJL.out j
          rw [hs1, hV]
          rw [<- hl] at h ⊢
          exact h.set kj nb hn256 (by rw [hl]; exact hk16))
        have W8 := Lib.hid (W7.out.grown hg W7.out.size (fun i hi => by have := Option.some.inj hi; have := UB.out; omega))
        have L8 := Lib.hid (L7.out.cell O7.out rfl MO7.out hg (HT.out.below W8.out))
        have K8 := Lib.hid (K7.out.grown hg (fun q => own_apartQ K7.out O7.out (by decide) q.symm))
        have G8 := Lib.hid (G7.out.grown hg (fun q => own_apartQ G7.out O7.out (by decide) q.symm))
        have X8 := Lib.hid (X7.out.grown hg (fun q => own_apartQ X7.out O7.out (by decide) q.symm))
        have P8 := Lib.hid (P7.out.grown hg (fun q => own_apartQ P7.out O7.out (by decide) q.symm))
        have Q8 := Lib.hid (Q7.out.grown hg (fun q => own_apartQ Q7.out O7.out (by decide) q.symm))
        have RDX := Lib.hid (show Rd V (.slice (some ⟨u, kj, none⟩) 1 (cp - kj)) [gb (AJ (j + 1)) kj] by
          have q := O8.out.rd.piece kj 1 (cp - kj) (by rw [HJL.out]; omega) (by have := HCP.out; omega)
          rw [take_one (by rw [HJL.out]; exact hk16)] at q
          rw [addr_at0] at q; exact q)
        have HEDj := Lib.hid (HED.out V s d A7 j hlt (.slice (some ⟨u, kj, none⟩) 1 (cp - kj)) L8.out (by rw [<- hkj]; exact RDX.out) (fun _ g e => .inr (by rw [<- Option.some.inj e]; exact MO7.out)))
        rw [<- hkj] at HEDj
        have HSL1 := Lib.hid (fun (o : Oper) (a : Act) (V : World) (x y z : Operand) (ho : o.op = .slice 46 x (some y) (some z) none) (hx : a.eval x = .slice (some ⟨u, 0, none⟩) 16384 cp) (hy : a.eval y = .int .i64 (kj : Int)) (hz : a.eval z = .int .i64 (m1 : Int)) => (show (execOp a.eval o).run Tryz.prog V = .ok (.value (.slice (some ⟨u, kj, none⟩) 1 (cp - kj))) V by
          have q := ex_slice_lh (w := V) ho hx hy hz (by omega) (by have := HCP.out; omega) (by have := HCP.out; omega)
          rw [show m1 - kj = 1 by omega] at q
          rw [addr_at0] at q; exact q))
        clear hkj hq1 hq2 hm1 hx8 hx256 hn256 hnb hs1 hs2 hs3 hg
        go_upto_region 19 with fail
        rw [<- hV]
        clear hV co fo cg
        go_wp2_with (first
          | ((with_reducible show wpList _ _ _ (Oper.mk (some 100) (.slice _ _ _ _ _) _ _ _ _ :: _) _ _); refine wpList_wanted rfl (.slice (some ⟨u, kj, none⟩) 1 (cp - kj)) (HSL1.out _ _ _ _ _ _ rfl rfl rfl rfl) ?_)
          | (go_at_call 20; (with_reducible refine HEDj.out.mono ?_); rintro e w9 ⟨rfl, ll, kk⟩; have L9 := Lib.hid ll; have O9 := Lib.hid (own_kept O8.out kk (fun g e => .inr (by rw [<- Option.some.inj e]; exact MO7.out))); have K9 := Lib.hid (K8.out.kept kk (.inr MK7.out)); have G9 := Lib.hid (G8.out.kept kk (.inr MG7.out)); have X9 := Lib.hid (X8.out.kept kk (.inr MX7.out)); have P9 := Lib.hid (P8.out.kept kk (.inr MP7.out)); have Q9 := Lib.hid (Q8.out.kept kk (.inr MQ7.out)); have W9 := Lib.hid (kk.below W8.out W8.out.size); clear ll kk))
        exact ⟨⟨j + 1, A7, by omega, by go_num, O9.out, L9.out, MO7.out, K9.out, MK7.out, G9.out, MG7.out, X9.out, MX7.out, P9.out, MP7.out, Q9.out, MQ7.out, W9.out⟩, by simp [intOf]; omega⟩
      . have hltI : ¬ (j : Int) < 3 := by omega
        obtain rfl : j = 3 := by omega
        obtain ⟨w7, rfl⟩ : ∃ x, x = wr := ⟨wr, rfl⟩
        have L7 := Lib.hid (show Laid w.heap.size w7 s d p A7 SE by rw [HSE.out]; exact L7.out)
        have MO7 := Lib.hid (fun (_ : 0 < AE.length) g (e : (.slice (some ⟨u, 0, none⟩) 16384 cp : Value).ownBlock = some g) => (show g < w.heap.size \/ A7 g from .inr (by rw [<- Option.some.inj e]; exact MO7.out)))
        have O7 := Lib.hid (show Rd w7 (.slice (some ⟨u, 0, none⟩) 16384 cp) AE by rw [HAE.out]; exact O7.out.rd)
        have HCS := Lib.hid (fun (o : Oper) (a : Act) (V : World) (ho : o.op = .slice 46 (.tmp 151) none (some (.const (.int .i64 4200))) none) (hx : a.eval (.tmp 151) = .slice (some ⟨u, 0, none⟩) 16384 cp) => (show (execOp a.eval o).run Tryz.prog V = .ok (.value (.slice (some ⟨u, 0, none⟩) 4200 cp)) V by
          have h1 : (4200 : Int) <= (cp : Int) := by have := HCP.out; omega
          unfold execOp
          rw [ho]
          simp only [Option.map_some, Option.map_none, hx]
          go_simp))
        go_upto_region 23 with (first
          | ((with_reducible show wpList _ _ _ (Oper.mk (some 104) (.load _ (.tmp 10)) _ _ _ _ :: _) _ _); refine wpList_load_wanted rfl 49 (.tmp 10) rfl rX 0 rfl RC _ X7.out.range Tryz.underlying49 rfl (by rw [RC33.out]; exact infoRfQ) ?_)
          | (go_at_call 14; (with_reducible refine (HD1.out w7 s d _ L7.out).mono ?_); rintro e w8 ⟨y, rfl, bb⟩; have K8 := Lib.hid (K7.out.below bb K7.out.lt); have G8 := Lib.hid (G7.out.below bb G7.out.lt); have X8 := Lib.hid (X7.out.below bb X7.out.lt); have P8 := Lib.hid (P7.out.below bb P7.out.lt); have Q8 := Lib.hid (Q7.out.below bb Q7.out.lt); have O8 := Lib.hid (O7.out.below bb); have W8 := Lib.hid (W7.out.on bb); obtain ⟨A8, l', i', n'⟩ := L7.out.own2 bb; have L8 := Lib.hid l'; have MK8 := Lib.hid (i' _ MK7.out); have MG8 := Lib.hid (i' _ MG7.out); have MX8 := Lib.hid (i' _ MX7.out); have MP8 := Lib.hid (i' _ MP7.out); have MQ8 := Lib.hid (i' _ MQ7.out); have MO8 := Lib.hid (fun h g e => (MO7.out h g e).imp_right (i' g)); clear bb l' i' n')
          | ((with_reducible show wpList _ _ _ (Oper.mk (some 110) (.load _ (.tmp 12)) _ _ _ _ :: _) _ _); refine wpList_load_wanted rfl 49 (.tmp 12) rfl rP 0 rfl PC _ P8.out.range Tryz.underlying49 rfl (by rw [PC33.out]; exact infoRfQ) ?_)
          | (go_at_call 16; (with_reducible refine (HP1.out w8 s d _ L8.out).mono ?_); rintro e w9 ⟨y, rfl, bb⟩; have K9 := Lib.hid (K8.out.below bb K8.out.lt); have G9 := Lib.hid (G8.out.below bb G8.out.lt); have X9 := Lib.hid (X8.out.below bb X8.out.lt); have P9 := Lib.hid (P8.out.below bb P8.out.lt); have Q9 := Lib.hid (Q8.out.below bb Q8.out.lt); have O9 := Lib.hid (O8.out.below bb); have W9 := Lib.hid (W8.out.on bb); obtain ⟨A9, l', i', n'⟩ := L8.out.own2 bb; have L9 := Lib.hid l'; have MK9 := Lib.hid (i' _ MK8.out); have MG9 := Lib.hid (i' _ MG8.out); have MX9 := Lib.hid (i' _ MX8.out); have MP9 := Lib.hid (i' _ MP8.out); have MQ9 := Lib.hid (i' _ MQ8.out); have MO9 := Lib.hid (fun h g e => (MO8.out h g e).imp_right (i' g)); clear bb l' i' n')
          | ((with_reducible show wpList _ _ _ (Oper.mk (some 116) (.load _ (.tmp 14)) _ _ _ _ :: _) _ _); refine wpList_load_wanted rfl 49 (.tmp 14) rfl rQ 0 rfl NC _ Q9.out.range Tryz.underlying49 rfl (by rw [NC33.out]; exact infoRfQ) ?_)
          | (go_at_call 15; (with_reducible refine (HN1.out w9 s d _ L9.out).mono ?_); rintro e w10 ⟨rfl, bb⟩; have K10 := Lib.hid (K9.out.below bb K9.out.lt); have G10 := Lib.hid (G9.out.below bb G9.out.lt); have X10 := Lib.hid (X9.out.below bb X9.out.lt); have P10 := Lib.hid (P9.out.below bb P9.out.lt); have Q10 := Lib.hid (Q9.out.below bb Q9.out.lt); have O10 := Lib.hid (O9.out.below bb); have W10 := Lib.hid (W9.out.on bb); obtain ⟨A10, l', i', n'⟩ := L9.out.own2 bb; have L10 := Lib.hid l'; have MK10 := Lib.hid (i' _ MK9.out); have MG10 := Lib.hid (i' _ MG9.out); have MX10 := Lib.hid (i' _ MX9.out); have MP10 := Lib.hid (i' _ MP9.out); have MQ10 := Lib.hid (i' _ MQ9.out); have MO10 := Lib.hid (fun h g e => (MO9.out h g e).imp_right (i' g)); clear bb l' i' n')
          | ((with_reducible show wpList _ _ _ (Oper.mk _ (.store _ (.tmp 23) (.tmp 118)) _ _ _ _ :: _) _ _); refine wpList_store_blk rfl 51 (.tmp 23) (.tmp 118) rfl w10.heap.size 0 XN rfl rfl 51 ZN (Blk.new w10 51 ZN _ rfl) (by have := XN264.out; have := ZN264.out; omega) (by rw [XN264.out]; exact infoNdP) XN1.out ?_; intro w11 b' g'; rw [splice_all _ _ (by rw [XN264.out, ZN264.out])] at b'; have bb := alloc_turn (Below.refl _ _) g'; have K11 := Lib.hid (K10.out.below bb K10.out.lt); have G11 := Lib.hid (G10.out.below bb G10.out.lt); have X11 := Lib.hid (X10.out.below bb X10.out.lt); have P11 := Lib.hid (P10.out.below bb P10.out.lt); have Q11 := Lib.hid (Q10.out.below bb Q10.out.lt); have O11 := Lib.hid (O10.out.below bb); have W11 := Lib.hid (W10.out.on bb); obtain ⟨A11, l', i', n'⟩ := L10.out.own2 bb; have L11 := Lib.hid l'; have MK11 := Lib.hid (i' _ MK10.out); have MG11 := Lib.hid (i' _ MG10.out); have MX11 := Lib.hid (i' _ MX10.out); have MP11 := Lib.hid (i' _ MP10.out); have MQ11 := Lib.hid (i' _ MQ10.out); have MO11 := Lib.hid (fun h g e => (MO10.out h g e).imp_right (i' g)); clear bb l' i' n'; clear b' g'))
        have RDP4608 := Lib.hid (fun w' (hB : Below w11.heap.size w11 w') => (show Rd w' (.slice (some ⟨u, 4608, none⟩) 512 (cp - 4608)) P1 by rw [HP1e.out]; have q := ((O11.out.below hB).piece 4608 512 (cp - 4608) (by rw [HAEl.out]; decide) (by have := HCP.out; omega)); rw [addr_at0] at q; exact q))
        have RDP5120 := Lib.hid (fun w' (hB : Below w11.heap.size w11 w') => (show Rd w' (.slice (some ⟨u, 5120, none⟩) 512 (cp - 5120)) P2 by rw [HP2e.out]; have q := ((O11.out.below hB).piece 5120 512 (cp - 5120) (by rw [HAEl.out]; decide) (by have := HCP.out; omega)); rw [addr_at0] at q; exact q))
        have SRP := Lib.hid (fun w' (hB : Below w11.heap.size w11 w') => HRS2.out w' rP (P11.out.below hB P11.out.lt))
        have SRQ := Lib.hid (fun w' (hB : Below w11.heap.size w11 w') => HRS3.out w' rQ (Q11.out.below hB Q11.out.lt))
        rcases T1.out with rfl | ⟨rfl, t1⟩
        . rcases T2.out with rfl | ⟨rfl, t2⟩
          . rcases T3.out with rfl | ⟨rfl, t3⟩
            . skip
              refine wp_region_g (by kernel_rfl) 29 (by decide) (by kernel_rfl) (by kernel_rfl) (by kernel_rfl) w11.heap.size (Nat.le_refl _) [.val (.int .i64 40), .val (.bool false), .val (.bool false), .val (undef), .val (undef), .val (.bool false), .val (.bool false), .val (.int .i64 40), .val (.bool false), .val (.bool false), .val (undef), .val (undef), .val (undef), .val (undef), .val (undef), .val (undef), .val (.bool false), .val (.bool false), .val (.bool false), .val (.int .i64 40), .val (.bool false), .val (.bool false), .val (undef), .val (undef), .val (undef), .val (undef), .val (undef), .val (undef), .val (.bool false)] (fun _ => 29) ?_ ?_
              . refine ⟨?_, ?_, ?_, ?_, ?_, ?_, ?_, ?_, ?_, ?_, ?_, ?_, ?_, ?_, ?_, ?_, ?_, ?_, ?_, ?_, ?_, ?_, ?_, ?_, ?_, ?_, ?_, ?_, ?_, trivial⟩
                . intro a w' hF hB hd
                  have e20 : a.eval (.tmp 20) = .int .i64 40 := hF 20 (by decide +kernel)
                  exact doesG_val rfl (ex_move rfl e20) rfl rfl
                . intro a w' hF hB hd
                  have e120 : a.eval (.tmp 120) = .int .i64 40 := hd 0 (by decide +kernel) (.inr (by decide))
                  exact doesG_val rfl (ex_binOp rfl e120 rfl (by go_simp) (by go_simp)) rfl rfl
                . intro a w' hF hB hd
                  have e121 : a.eval (.tmp 121) = .bool false := hd 1 (by decide +kernel) (.inr (by decide))
                  exact doesG_val rfl (ex_move rfl e121) rfl rfl
                . intro a w' hF hB hd
                  have e122 : a.eval (.tmp 122) = .bool false := hd 2 (by decide +kernel) (.inr (by decide))
                  exact doesG_skip (unwanted_of rfl (yielded_of rfl e122) (by decide)) rfl
                . intro a w' hF hB hd
                  have e122 : a.eval (.tmp 122) = .bool false := hd 2 (by decide +kernel) (.inr (by decide))
                  exact doesG_skip (unwanted_of rfl (yielded_of rfl e122) (by decide)) rfl
                . intro a w' hF hB hd
                  have e122 : a.eval (.tmp 122) = .bool false := hd 2 (by decide +kernel) (.inr (by decide))
                  exact doesG_val rfl (ex_pick rfl e122 (rfl)) rfl rfl
                . intro a w' hF hB hd
                  have e125 : a.eval (.tmp 125) = .bool false := hd 5 (by decide +kernel) (.inr (by decide))
                  exact doesG_val rfl (ex_move rfl e125) rfl rfl
                . intro a w' hF hB hd
                  have e126 : a.eval (.tmp 126) = .bool false := hd 6 (by decide +kernel) (.inr (by decide))
                  have e22 : a.eval (.tmp 22) = .int .i64 40 := hF 22 (by decide +kernel)
                  exact doesG_val (wanted_of rfl (yielded_of rfl e126)) (ex_move rfl e22) rfl rfl
                . intro a w' hF hB hd
                  have e126 : a.eval (.tmp 126) = .bool false := hd 6 (by decide +kernel) (.inr (by decide))
                  have e127 : a.eval (.tmp 127) = .int .i64 40 := hd 7 (by decide +kernel) (.inr (by decide))
                  exact doesG_val (wanted_of rfl (yielded_of rfl e126)) (ex_binOp rfl e127 rfl (by go_simp) (by go_simp)) rfl rfl
                . intro a w' hF hB hd
                  have e126 : a.eval (.tmp 126) = .bool false := hd 6 (by decide +kernel) (.inr (by decide))
                  have e128 : a.eval (.tmp 128) = .bool false := hd 8 (by decide +kernel) (.inr (by decide))
                  exact doesG_val (wanted_of rfl (yielded_of rfl e126)) (ex_move rfl e128) rfl rfl
                . intro a w' hF hB hd
                  have e129 : a.eval (.tmp 129) = .bool false := hd 9 (by decide +kernel) (.inr (by decide))
                  exact doesG_skip (unwanted_of rfl (yielded_of rfl e129) (by decide)) rfl
                . intro a w' hF hB hd
                  have e129 : a.eval (.tmp 129) = .bool false := hd 9 (by decide +kernel) (.inr (by decide))
                  exact doesG_skip (unwanted_of rfl (yielded_of rfl e129) (by decide)) rfl
                . intro a w' hF hB hd
                  have e129 : a.eval (.tmp 129) = .bool false := hd 9 (by decide +kernel) (.inr (by decide))
                  exact doesG_skip (unwanted_of rfl (yielded_of rfl e129) (by decide)) rfl
                . intro a w' hF hB hd
                  have e129 : a.eval (.tmp 129) = .bool false := hd 9 (by decide +kernel) (.inr (by decide))
                  exact doesG_skip (unwanted_of rfl (yielded_of rfl e129) (by decide)) rfl
                . intro a w' hF hB hd
                  have e129 : a.eval (.tmp 129) = .bool false := hd 9 (by decide +kernel) (.inr (by decide))
                  exact doesG_skip (unwanted_of rfl (yielded_of rfl e129) (by decide)) rfl
                . intro a w' hF hB hd
                  have e129 : a.eval (.tmp 129) = .bool false := hd 9 (by decide +kernel) (.inr (by decide))
                  exact doesG_skip (unwanted_of rfl (yielded_of rfl e129) (by decide)) rfl
                . intro a w' hF hB hd
                  have e126 : a.eval (.tmp 126) = .bool false := hd 6 (by decide +kernel) (.inr (by decide))
                  have e129 : a.eval (.tmp 129) = .bool false := hd 9 (by decide +kernel) (.inr (by decide))
                  exact doesG_val (wanted_of rfl (yielded_of rfl e126)) (ex_pick rfl e129 (rfl)) rfl rfl
                . intro a w' hF hB hd
                  have e126 : a.eval (.tmp 126) = .bool false := hd 6 (by decide +kernel) (.inr (by decide))
                  have e136 : a.eval (.tmp 136) = .bool false := hd 16 (by decide +kernel) (.inr (by decide))
                  exact doesG_val rfl (ex_pick rfl e126 (by simp [e136])) rfl rfl
                . intro a w' hF hB hd
                  have e137 : a.eval (.tmp 137) = .bool false := hd 17 (by decide +kernel) (.inr (by decide))
                  exact doesG_val rfl (ex_move rfl e137) rfl rfl
                . intro a w' hF hB hd
                  have e138 : a.eval (.tmp 138) = .bool false := hd 18 (by decide +kernel) (.inr (by decide))
                  have e24 : a.eval (.tmp 24) = .int .i64 40 := hF 24 (by decide +kernel)
                  exact doesG_val (wanted_of rfl (yielded_of rfl e138)) (ex_move rfl e24) rfl rfl
                . intro a w' hF hB hd
                  have e138 : a.eval (.tmp 138) = .bool false := hd 18 (by decide +kernel) (.inr (by decide))
                  have e139 : a.eval (.tmp 139) = .int .i64 40 := hd 19 (by decide +kernel) (.inr (by decide))
                  exact doesG_val (wanted_of rfl (yielded_of rfl e138)) (ex_binOp rfl e139 rfl (by go_simp) (by go_simp)) rfl rfl
                . intro a w' hF hB hd
                  have e138 : a.eval (.tmp 138) = .bool false := hd 18 (by decide +kernel) (.inr (by decide))
                  have e140 : a.eval (.tmp 140) = .bool false := hd 20 (by decide +kernel) (.inr (by decide))
                  exact doesG_val (wanted_of rfl (yielded_of rfl e138)) (ex_move rfl e140) rfl rfl
                . intro a w' hF hB hd
                  have e141 : a.eval (.tmp 141) = .bool false := hd 21 (by decide +kernel) (.inr (by decide))
                  exact doesG_skip (unwanted_of rfl (yielded_of rfl e141) (by decide)) rfl
                . intro a w' hF hB hd
                  have e141 : a.eval (.tmp 141) = .bool false := hd 21 (by decide +kernel) (.inr (by decide))
                  exact doesG_skip (unwanted_of rfl (yielded_of rfl e141) (by decide)) rfl
                . intro a w' hF hB hd
                  have e141 : a.eval (.tmp 141) = .bool false := hd 21 (by decide +kernel) (.inr (by decide))
                  exact doesG_skip (unwanted_of rfl (yielded_of rfl e141) (by decide)) rfl
                . intro a w' hF hB hd
                  have e141 : a.eval (.tmp 141) = .bool false := hd 21 (by decide +kernel) (.inr (by decide))
                  exact doesG_skip (unwanted_of rfl (yielded_of rfl e141) (by decide)) rfl
                . intro a w' hF hB hd
                  have e141 : a.eval (.tmp 141) = .bool false := hd 21 (by decide +kernel) (.inr (by decide))
                  exact doesG_skip (unwanted_of rfl (yielded_of rfl e141) (by decide)) rfl
                . intro a w' hF hB hd
                  have e141 : a.eval (.tmp 141) = .bool false := hd 21 (by decide +kernel) (.inr (by decide))
                  exact doesG_skip (unwanted_of rfl (yielded_of rfl e141) (by decide)) rfl
                . intro a w' hF hB hd
                  have e138 : a.eval (.tmp 138) = .bool false := hd 18 (by decide +kernel) (.inr (by decide))
                  have e141 : a.eval (.tmp 141) = .bool false := hd 21 (by decide +kernel) (.inr (by decide))
                  exact doesG_val (wanted_of rfl (yielded_of rfl e138)) (ex_pick rfl e141 (rfl)) rfl rfl
              . intro vs w12 hB hv hap
                have e137 : vs 17 = .bool false := hv 17 (by decide) (by decide)
                have e138 : vs 18 = .bool false := hv 18 (by decide) (by decide)
                have e148 : vs 28 = .bool false := hv 28 (by decide) (by decide)
                simp only [List.take_succ_cons, List.take_zero, List.drop_succ_cons, List.drop_zero, putOps, Act.put, List.setIfInBounds_toArray, List.set_cons_zero, List.set_cons_succ, e137, e138, e148]
                have K12 := Lib.hid (K11.out.below hB K11.out.lt); have G12 := Lib.hid (G11.out.below hB G11.out.lt); have X12 := Lib.hid (X11.out.below hB X11.out.lt); have P12 := Lib.hid (P11.out.below hB P11.out.lt); have Q12 := Lib.hid (Q11.out.below hB Q11.out.lt); have O12 := Lib.hid (O11.out.below hB); have W12 := Lib.hid (W11.out.on hB); obtain ⟨A12, l', i', n'⟩ := L11.out.own2 hB; have L12 := Lib.hid l'; have MK12 := Lib.hid (i' _ MK11.out); have MG12 := Lib.hid (i' _ MG11.out); have MX12 := Lib.hid (i' _ MX11.out); have MP12 := Lib.hid (i' _ MP11.out); have MQ12 := Lib.hid (i' _ MQ11.out); have MO12 := Lib.hid (fun h g e => (MO11.out h g e).imp_right (i' g)); clear hv hap e137 e138 e148 hB l' i' n'
                generalize vs 0 = z0
                generalize vs 1 = z1
                generalize vs 2 = z2
                generalize vs 3 = z3
                generalize vs 4 = z4
                generalize vs 5 = z5
                generalize vs 6 = z6
                generalize vs 7 = z7
                generalize vs 8 = z8
                generalize vs 9 = z9
                generalize vs 10 = z10
                generalize vs 11 = z11
                generalize vs 12 = z12
                generalize vs 13 = z13
                generalize vs 14 = z14
                generalize vs 15 = z15
                generalize vs 16 = z16
                generalize vs 19 = z19
                generalize vs 20 = z20
                generalize vs 21 = z21
                generalize vs 22 = z22
                generalize vs 23 = z23
                generalize vs 24 = z24
                generalize vs 25 = z25
                generalize vs 26 = z26
                generalize vs 27 = z27
                have OC := Lib.hid (show Rd w12 (.slice (some ⟨u, 0, none⟩) 4200 cp) CUT by rw [HCUT.out]; exact O12.out.take 4200 (by rw [HAEl.out]; decide))
                have MOC := Lib.hid (fun (_ : 0 < CUT.length) g (e : (Value.slice (some ⟨u, 0, none⟩) 4200 cp).ownBlock = some g) => MO12.out (by rw [HAEl.out]; decide) g e)
                go_upto_region 28 with (first
                  | ((with_reducible show wpList _ _ _ (Oper.mk (some 152) (.slice _ _ _ _ _) _ _ _ _ :: _) _ _); refine wpList_wanted rfl (.slice (some ⟨u, 0, none⟩) 4200 cp) (HCS.out _ _ _ rfl rfl) ?_)
                  | (go_at_call 23; (with_reducible refine (HLD.out w12 s d _ (.slice (some ⟨u, 0, none⟩) 4200 cp) L12.out OC.out MOC.out).mono ?_); rintro e w13 ⟨rfl, ll, kk⟩; have L13 := Lib.hid ll; have K13 := Lib.hid (K12.out.kept kk (.inr MK12.out)); have MK13 := MK12; have G13 := Lib.hid (G12.out.kept kk (.inr MG12.out)); have MG13 := MG12; have X13 := Lib.hid (X12.out.kept kk (.inr MX12.out)); have MX13 := MX12; have P13 := Lib.hid (P12.out.kept kk (.inr MP12.out)); have MP13 := MP12; have Q13 := Lib.hid (Q12.out.kept kk (.inr MQ12.out)); have MQ13 := MQ12; have O13 := Lib.hid (O12.out.kept0 kk MO12.out); have MO13 := MO12; have W13 := Lib.hid (kk.below W12.out W12.out.size); clear kk ll)
                  | ((with_reducible show wpList _ _ _ (Oper.mk (some 156) (.load _ (.tmp 10)) _ _ _ _ :: _) _ _); refine wpList_load_wanted rfl 49 (.tmp 10) rfl rX 0 rfl RC _ X13.out.range Tryz.underlying49 rfl (by rw [RC33.out]; exact infoRfQ) ?_)
                  | (go_at_call 14; (with_reducible refine (HD2.out w13 s d _ L13.out).mono ?_); rintro e w14 ⟨y, rfl, bb⟩; have K14 := Lib.hid (K13.out.below bb K13.out.lt); have G14 := Lib.hid (G13.out.below bb G13.out.lt); have X14 := Lib.hid (X13.out.below bb X13.out.lt); have P14 := Lib.hid (P13.out.below bb P13.out.lt); have Q14 := Lib.hid (Q13.out.below bb Q13.out.lt); have O14 := Lib.hid (O13.out.below bb); have W14 := Lib.hid (W13.out.on bb); obtain ⟨A14, l', i', n'⟩ := L13.out.own2 bb; have L14 := Lib.hid l'; have MK14 := Lib.hid (i' _ MK13.out); have MG14 := Lib.hid (i' _ MG13.out); have MX14 := Lib.hid (i' _ MX13.out); have MP14 := Lib.hid (i' _ MP13.out); have MQ14 := Lib.hid (i' _ MQ13.out); have MO14 := Lib.hid (fun h g e => (MO13.out h g e).imp_right (i' g)); clear bb l' i' n')
                  | ((with_reducible show wpList _ _ _ (Oper.mk (some 162) (.load _ (.tmp 12)) _ _ _ _ :: _) _ _); refine wpList_load_wanted rfl 49 (.tmp 12) rfl rP 0 rfl PC _ P14.out.range Tryz.underlying49 rfl (by rw [PC33.out]; exact infoRfQ) ?_)
                  | (go_at_call 16; (with_reducible refine (HP2.out w14 s d _ L14.out).mono ?_); rintro e w15 ⟨y, rfl, bb⟩; have K15 := Lib.hid (K14.out.below bb K14.out.lt); have G15 := Lib.hid (G14.out.below bb G14.out.lt); have X15 := Lib.hid (X14.out.below bb X14.out.lt); have P15 := Lib.hid (P14.out.below bb P14.out.lt); have Q15 := Lib.hid (Q14.out.below bb Q14.out.lt); have O15 := Lib.hid (O14.out.below bb); have W15 := Lib.hid (W14.out.on bb); obtain ⟨A15, l', i', n'⟩ := L14.out.own2 bb; have L15 := Lib.hid l'; have MK15 := Lib.hid (i' _ MK14.out); have MG15 := Lib.hid (i' _ MG14.out); have MX15 := Lib.hid (i' _ MX14.out); have MP15 := Lib.hid (i' _ MP14.out); have MQ15 := Lib.hid (i' _ MQ14.out); have MO15 := Lib.hid (fun h g e => (MO14.out h g e).imp_right (i' g)); clear bb l' i' n'))
                refine wp_region_g (by kernel_rfl) 20 (by decide) (by kernel_rfl) (by kernel_rfl) (by kernel_rfl) w15.heap.size (Nat.le_refl _) [.val (.int .i64 40), .val (.bool true), .val (.bool true), .val (.int .i64 40), .val (.bool true), .val (.bool true), .val (.bool true), .val (.int .i64 40), .val (.bool true), .val (.bool true), .val (undef), .val (undef), .val (undef), .val (undef), .val (undef), .val (.bool true), .val (.bool true), .val (.bool true), .val (.bool true), .val (.bool true)] (fun _ => 20) ?_ ?_
                . refine ⟨?_, ?_, ?_, ?_, ?_, ?_, ?_, ?_, ?_, ?_, ?_, ?_, ?_, ?_, ?_, ?_, ?_, ?_, ?_, ?_, trivial⟩
                  . intro a w' hF hB hd
                    have e26 : a.eval (.tmp 26) = .int .i64 40 := hF 26 (by decide +kernel)
                    exact doesG_val rfl (ex_move rfl e26) rfl rfl
                  . intro a w' hF hB hd
                    have e166 : a.eval (.tmp 166) = .int .i64 40 := hd 0 (by decide +kernel) (.inr (by decide))
                    exact doesG_val rfl (ex_binOp rfl e166 rfl (by go_simp) (by go_simp)) rfl rfl
                  . intro a w' hF hB hd
                    have e167 : a.eval (.tmp 167) = .bool true := hd 1 (by decide +kernel) (.inr (by decide))
                    exact doesG_val rfl (ex_move rfl e167) rfl rfl
                  . intro a w' hF hB hd
                    have e168 : a.eval (.tmp 168) = .bool true := hd 2 (by decide +kernel) (.inr (by decide))
                    have e28 : a.eval (.tmp 28) = .int .i64 40 := hF 28 (by decide +kernel)
                    exact doesG_val (wanted_of rfl (yielded_of rfl e168)) (ex_move rfl e28) rfl rfl
                  . intro a w' hF hB hd
                    have e168 : a.eval (.tmp 168) = .bool true := hd 2 (by decide +kernel) (.inr (by decide))
                    have e169 : a.eval (.tmp 169) = .int .i64 40 := hd 3 (by decide +kernel) (.inr (by decide))
                    exact doesG_val (wanted_of rfl (yielded_of rfl e168)) (ex_binOp rfl e169 rfl (by go_simp) (by go_simp)) rfl rfl
                  . intro a w' hF hB hd
                    have e168 : a.eval (.tmp 168) = .bool true := hd 2 (by decide +kernel) (.inr (by decide))
                    have e170 : a.eval (.tmp 170) = .bool true := hd 4 (by decide +kernel) (.inr (by decide))
                    exact doesG_val rfl (ex_pick rfl e168 (by simp [e170])) rfl rfl
                  . intro a w' hF hB hd
                    have e171 : a.eval (.tmp 171) = .bool true := hd 5 (by decide +kernel) (.inr (by decide))
                    exact doesG_val rfl (ex_move rfl e171) rfl rfl
                  . intro a w' hF hB hd
                    have e172 : a.eval (.tmp 172) = .bool true := hd 6 (by decide +kernel) (.inr (by decide))
                    have e20 : a.eval (.tmp 20) = .int .i64 40 := hF 20 (by decide +kernel)
                    exact doesG_val (wanted_of rfl (yielded_of rfl e172)) (ex_move rfl e20) rfl rfl
                  . intro a w' hF hB hd
                    have e172 : a.eval (.tmp 172) = .bool true := hd 6 (by decide +kernel) (.inr (by decide))
                    have e173 : a.eval (.tmp 173) = .int .i64 40 := hd 7 (by decide +kernel) (.inr (by decide))
                    exact doesG_val (wanted_of rfl (yielded_of rfl e172)) (ex_binOp rfl e173 rfl (by go_simp) (by go_simp)) rfl rfl
                  . intro a w' hF hB hd
                    have e172 : a.eval (.tmp 172) = .bool true := hd 6 (by decide +kernel) (.inr (by decide))
                    have e174 : a.eval (.tmp 174) = .bool true := hd 8 (by decide +kernel) (.inr (by decide))
                    exact doesG_val (wanted_of rfl (yielded_of rfl e172)) (ex_move rfl e174) rfl rfl
                  . intro a w' hF hB hd
                    have e175 : a.eval (.tmp 175) = .bool true := hd 9 (by decide +kernel) (.inr (by decide))
                    exact doesG_skip (unwanted_of rfl (yielded_of rfl e175) (by decide)) rfl
                  . intro a w' hF hB hd
                    have e175 : a.eval (.tmp 175) = .bool true := hd 9 (by decide +kernel) (.inr (by decide))
                    exact doesG_skip (unwanted_of rfl (yielded_of rfl e175) (by decide)) rfl
                  . intro a w' hF hB hd
                    have e175 : a.eval (.tmp 175) = .bool true := hd 9 (by decide +kernel) (.inr (by decide))
                    exact doesG_skip (unwanted_of rfl (yielded_of rfl e175) (by decide)) rfl
                  . intro a w' hF hB hd
                    have e175 : a.eval (.tmp 175) = .bool true := hd 9 (by decide +kernel) (.inr (by decide))
                    exact doesG_skip (unwanted_of rfl (yielded_of rfl e175) (by decide)) rfl
                  . intro a w' hF hB hd
                    have e175 : a.eval (.tmp 175) = .bool true := hd 9 (by decide +kernel) (.inr (by decide))
                    exact doesG_skip (unwanted_of rfl (yielded_of rfl e175) (by decide)) rfl
                  . intro a w' hF hB hd
                    have e172 : a.eval (.tmp 172) = .bool true := hd 6 (by decide +kernel) (.inr (by decide))
                    have e175 : a.eval (.tmp 175) = .bool true := hd 9 (by decide +kernel) (.inr (by decide))
                    exact doesG_val (wanted_of rfl (yielded_of rfl e172)) (ex_pick rfl e175 (rfl)) rfl rfl
                  . intro a w' hF hB hd
                    have e172 : a.eval (.tmp 172) = .bool true := hd 6 (by decide +kernel) (.inr (by decide))
                    have e181 : a.eval (.tmp 181) = .bool true := hd 15 (by decide +kernel) (.inr (by decide))
                    exact doesG_val rfl (ex_pick rfl e172 (by simp [e181])) rfl rfl
                  . intro a w' hF hB hd
                    have e182 : a.eval (.tmp 182) = .bool true := hd 16 (by decide +kernel) (.inr (by decide))
                    exact doesG_val rfl (ex_move rfl e182) rfl rfl
                  . intro a w' hF hB hd
                    have e183 : a.eval (.tmp 183) = .bool true := hd 17 (by decide +kernel) (.inr (by decide))
                    exact doesG_call (wanted_of rfl (yielded_of rfl e183)) (ex_call (vs := #[]) rfl (by simp only [List.map_toArray, List.map_nil]) (by go_simp)) rfl ((HAW.out w' (W15.out.on hB)).mono fun e w3 hh => ⟨_, hh.1, rfl, hh.2⟩)
                  . intro a w' hF hB hd
                    have e183 : a.eval (.tmp 183) = .bool true := hd 17 (by decide +kernel) (.inr (by decide))
                    have e184 : a.eval (.tmp 184) = .bool true := hd 18 (by decide +kernel) (.inr (by decide))
                    exact doesG_val rfl (ex_pick rfl e183 (by simp [e184])) rfl rfl
                . intro vs w16 hB hv hap
                  have e185 : vs 19 = .bool true := hv 19 (by decide) (by decide)
                  simp only [List.take_succ_cons, List.take_zero, List.drop_succ_cons, List.drop_zero, putOps, Act.put, List.setIfInBounds_toArray, List.set_cons_zero, List.set_cons_succ, e185]
                  have W99 := Lib.hid (W15.out.on hB)
                  clear hv hap e185 hB
                  generalize vs 0 = y0
                  generalize vs 1 = y1
                  generalize vs 2 = y2
                  generalize vs 3 = y3
                  generalize vs 4 = y4
                  generalize vs 5 = y5
                  generalize vs 6 = y6
                  generalize vs 7 = y7
                  generalize vs 8 = y8
                  generalize vs 9 = y9
                  generalize vs 10 = y10
                  generalize vs 11 = y11
                  generalize vs 12 = y12
                  generalize vs 13 = y13
                  generalize vs 14 = y14
                  generalize vs 15 = y15
                  generalize vs 16 = y16
                  generalize vs 17 = y17
                  generalize vs 18 = y18
                  go_wp2_with fail
                  go_ret
                  exact ⟨rfl, W99.out⟩
            . have NEQ3 := Lib.hid (HE3.out t3)
              refine wp_region_g (by kernel_rfl) 29 (by decide) (by kernel_rfl) (by kernel_rfl) (by kernel_rfl) w11.heap.size (Nat.le_refl _) [.val (.int .i64 40), .val (.bool false), .val (.bool false), .val (undef), .val (undef), .val (.bool false), .val (.bool false), .val (.int .i64 40), .val (.bool false), .val (.bool false), .val (undef), .val (undef), .val (undef), .val (undef), .val (undef), .val (undef), .val (.bool false), .val (.bool false), .val (.bool false), .val (.int .i64 0), .val (.bool true), .val (.bool true), .val (.slice (some ⟨u, 0, none⟩) 16384 cp), .val (.slice (some ⟨u, 5120, none⟩) 512 (cp - 5120)), .val (.agg Q3.toArray), .val (.pointer (some ⟨rQ, 1, none⟩)), .val (.agg SM3.toArray), .val (.bool false), .val (.bool false)] (fun _ => 29) ?_ ?_
              . refine ⟨?_, ?_, ?_, ?_, ?_, ?_, ?_, ?_, ?_, ?_, ?_, ?_, ?_, ?_, ?_, ?_, ?_, ?_, ?_, ?_, ?_, ?_, ?_, ?_, ?_, ?_, ?_, ?_, ?_, trivial⟩
                . intro a w' hF hB hd
                  have e20 : a.eval (.tmp 20) = .int .i64 40 := hF 20 (by decide +kernel)
                  exact doesG_val rfl (ex_move rfl e20) rfl rfl
                . intro a w' hF hB hd
                  have e120 : a.eval (.tmp 120) = .int .i64 40 := hd 0 (by decide +kernel) (.inr (by decide))
                  exact doesG_val rfl (ex_binOp rfl e120 rfl (by go_simp) (by go_simp)) rfl rfl
                . intro a w' hF hB hd
                  have e121 : a.eval (.tmp 121) = .bool false := hd 1 (by decide +kernel) (.inr (by decide))
                  exact doesG_val rfl (ex_move rfl e121) rfl rfl
                . intro a w' hF hB hd
                  have e122 : a.eval (.tmp 122) = .bool false := hd 2 (by decide +kernel) (.inr (by decide))
                  exact doesG_skip (unwanted_of rfl (yielded_of rfl e122) (by decide)) rfl
                . intro a w' hF hB hd
                  have e122 : a.eval (.tmp 122) = .bool false := hd 2 (by decide +kernel) (.inr (by decide))
                  exact doesG_skip (unwanted_of rfl (yielded_of rfl e122) (by decide)) rfl
                . intro a w' hF hB hd
                  have e122 : a.eval (.tmp 122) = .bool false := hd 2 (by decide +kernel) (.inr (by decide))
                  exact doesG_val rfl (ex_pick rfl e122 (rfl)) rfl rfl
                . intro a w' hF hB hd
                  have e125 : a.eval (.tmp 125) = .bool false := hd 5 (by decide +kernel) (.inr (by decide))
                  exact doesG_val rfl (ex_move rfl e125) rfl rfl
                . intro a w' hF hB hd
                  have e126 : a.eval (.tmp 126) = .bool false := hd 6 (by decide +kernel) (.inr (by decide))
                  have e22 : a.eval (.tmp 22) = .int .i64 40 := hF 22 (by decide +kernel)
                  exact doesG_val (wanted_of rfl (yielded_of rfl e126)) (ex_move rfl e22) rfl rfl
                . intro a w' hF hB hd
                  have e126 : a.eval (.tmp 126) = .bool false := hd 6 (by decide +kernel) (.inr (by decide))
                  have e127 : a.eval (.tmp 127) = .int .i64 40 := hd 7 (by decide +kernel) (.inr (by decide))
                  exact doesG_val (wanted_of rfl (yielded_of rfl e126)) (ex_binOp rfl e127 rfl (by go_simp) (by go_simp)) rfl rfl
                . intro a w' hF hB hd
                  have e126 : a.eval (.tmp 126) = .bool false := hd 6 (by decide +kernel) (.inr (by decide))
                  have e128 : a.eval (.tmp 128) = .bool false := hd 8 (by decide +kernel) (.inr (by decide))
                  exact doesG_val (wanted_of rfl (yielded_of rfl e126)) (ex_move rfl e128) rfl rfl
                . intro a w' hF hB hd
                  have e129 : a.eval (.tmp 129) = .bool false := hd 9 (by decide +kernel) (.inr (by decide))
                  exact doesG_skip (unwanted_of rfl (yielded_of rfl e129) (by decide)) rfl
                . intro a w' hF hB hd
                  have e129 : a.eval (.tmp 129) = .bool false := hd 9 (by decide +kernel) (.inr (by decide))
                  exact doesG_skip (unwanted_of rfl (yielded_of rfl e129) (by decide)) rfl
                . intro a w' hF hB hd
                  have e129 : a.eval (.tmp 129) = .bool false := hd 9 (by decide +kernel) (.inr (by decide))
                  exact doesG_skip (unwanted_of rfl (yielded_of rfl e129) (by decide)) rfl
                . intro a w' hF hB hd
                  have e129 : a.eval (.tmp 129) = .bool false := hd 9 (by decide +kernel) (.inr (by decide))
                  exact doesG_skip (unwanted_of rfl (yielded_of rfl e129) (by decide)) rfl
                . intro a w' hF hB hd
                  have e129 : a.eval (.tmp 129) = .bool false := hd 9 (by decide +kernel) (.inr (by decide))
                  exact doesG_skip (unwanted_of rfl (yielded_of rfl e129) (by decide)) rfl
                . intro a w' hF hB hd
                  have e129 : a.eval (.tmp 129) = .bool false := hd 9 (by decide +kernel) (.inr (by decide))
                  exact doesG_skip (unwanted_of rfl (yielded_of rfl e129) (by decide)) rfl
                . intro a w' hF hB hd
                  have e126 : a.eval (.tmp 126) = .bool false := hd 6 (by decide +kernel) (.inr (by decide))
                  have e129 : a.eval (.tmp 129) = .bool false := hd 9 (by decide +kernel) (.inr (by decide))
                  exact doesG_val (wanted_of rfl (yielded_of rfl e126)) (ex_pick rfl e129 (rfl)) rfl rfl
                . intro a w' hF hB hd
                  have e126 : a.eval (.tmp 126) = .bool false := hd 6 (by decide +kernel) (.inr (by decide))
                  have e136 : a.eval (.tmp 136) = .bool false := hd 16 (by decide +kernel) (.inr (by decide))
                  exact doesG_val rfl (ex_pick rfl e126 (by simp [e136])) rfl rfl
                . intro a w' hF hB hd
                  have e137 : a.eval (.tmp 137) = .bool false := hd 17 (by decide +kernel) (.inr (by decide))
                  exact doesG_val rfl (ex_move rfl e137) rfl rfl
                . intro a w' hF hB hd
                  have e138 : a.eval (.tmp 138) = .bool false := hd 18 (by decide +kernel) (.inr (by decide))
                  have e24 : a.eval (.tmp 24) = .int .i64 0 := hF 24 (by decide +kernel)
                  exact doesG_val (wanted_of rfl (yielded_of rfl e138)) (ex_move rfl e24) rfl rfl
                . intro a w' hF hB hd
                  have e138 : a.eval (.tmp 138) = .bool false := hd 18 (by decide +kernel) (.inr (by decide))
                  have e139 : a.eval (.tmp 139) = .int .i64 0 := hd 19 (by decide +kernel) (.inr (by decide))
                  exact doesG_val (wanted_of rfl (yielded_of rfl e138)) (ex_binOp rfl e139 rfl (by go_simp) (by go_simp)) rfl rfl
                . intro a w' hF hB hd
                  have e138 : a.eval (.tmp 138) = .bool false := hd 18 (by decide +kernel) (.inr (by decide))
                  have e140 : a.eval (.tmp 140) = .bool true := hd 20 (by decide +kernel) (.inr (by decide))
                  exact doesG_val (wanted_of rfl (yielded_of rfl e138)) (ex_move rfl e140) rfl rfl
                . intro a w' hF hB hd
                  have e141 : a.eval (.tmp 141) = .bool true := hd 21 (by decide +kernel) (.inr (by decide))
                  have e16 : a.eval (.tmp 16) = .slice (some ⟨u, 0, none⟩) 16384 cp := hF 16 (by decide +kernel)
                  exact doesG_val (wanted_of rfl (yielded_of rfl e141)) (ex_move rfl e16) rfl rfl
                . intro a w' hF hB hd
                  have e141 : a.eval (.tmp 141) = .bool true := hd 21 (by decide +kernel) (.inr (by decide))
                  have e142 : a.eval (.tmp 142) = .slice (some ⟨u, 0, none⟩) 16384 cp := hd 22 (by decide +kernel) (.inr (by decide))
                  exact doesG_val (wanted_of rfl (yielded_of rfl e141)) (ex_slice_lh (k := 5120) (h := 5632) (cap := cp) (n := 16384) (ad := ⟨u, 0, none⟩) rfl e142 rfl rfl (by decide) (by have := HCP.out; omega) (by have := HCP.out; omega)) rfl rfl
                . intro a w' hF hB hd
                  have e141 : a.eval (.tmp 141) = .bool true := hd 21 (by decide +kernel) (.inr (by decide))
                  have e143 : a.eval (.tmp 143) = .slice (some ⟨u, 5120, none⟩) 512 (cp - 5120) := hd 23 (by decide +kernel) (.inr (by decide))
                  exact doesG_call (wanted_of rfl (yielded_of rfl e141)) (ex_call (vs := #[.slice (some ⟨u, 5120, none⟩) 512 (cp - 5120)]) rfl (by simp only [List.map_toArray, List.map_cons, List.map_nil, e143]) (by go_simp)) rfl ((HNS.out w' _ (W11.out.on hB) (RDP5120.out w' hB)).mono fun e w3 hh => ⟨_, hh.1, rfl, hh.2⟩)
                . intro a w' hF hB hd
                  have e141 : a.eval (.tmp 141) = .bool true := hd 21 (by decide +kernel) (.inr (by decide))
                  have e14 : a.eval (.tmp 14) = .pointer (some ⟨rQ, 0, none⟩) := hF 14 (by decide +kernel)
                  exact doesG_val (wanted_of rfl (yielded_of rfl e141)) (ex_fieldAddr rfl e14 (by go_simp)) rfl rfl
                . intro a w' hF hB hd
                  have e141 : a.eval (.tmp 141) = .bool true := hd 21 (by decide +kernel) (.inr (by decide))
                  have e145 : a.eval (.tmp 145) = .pointer (some ⟨rQ, 1, none⟩) := hd 25 (by decide +kernel) (.inr (by decide))
                  exact doesG_val (wanted_of rfl (yielded_of rfl e141)) (ex_load_part 47 (.tmp 145) rfl rQ 1 e145 SM3 _ (SRQ.out w' hB) Tryz.underlying47 rfl (by rw [SM332.out]; exact infoS)) rfl rfl
                . intro a w' hF hB hd
                  have e141 : a.eval (.tmp 141) = .bool true := hd 21 (by decide +kernel) (.inr (by decide))
                  have e144 : a.eval (.tmp 144) = .agg Q3.toArray := hd 24 (by decide +kernel) (.inr (by decide))
                  have e146 : a.eval (.tmp 146) = .agg SM3.toArray := hd 26 (by decide +kernel) (.inr (by decide))
                  exact doesG_val (wanted_of rfl (yielded_of rfl e141)) (ex_binOp rfl e144 e146 (run_eqGuard_agg (P := Tryz.prog) (w := w') .neq 47 _ _ _ _ eqTypeS) (NEQ3.out w')) rfl rfl
                . intro a w' hF hB hd
                  have e138 : a.eval (.tmp 138) = .bool false := hd 18 (by decide +kernel) (.inr (by decide))
                  have e141 : a.eval (.tmp 141) = .bool true := hd 21 (by decide +kernel) (.inr (by decide))
                  have e147 : a.eval (.tmp 147) = .bool false := hd 27 (by decide +kernel) (.inr (by decide))
                  exact doesG_val (wanted_of rfl (yielded_of rfl e138)) (ex_pick rfl e141 (by simp [e147])) rfl rfl
              . intro vs w12 hB hv hap
                have e137 : vs 17 = .bool false := hv 17 (by decide) (by decide)
                have e138 : vs 18 = .bool false := hv 18 (by decide) (by decide)
                have e148 : vs 28 = .bool false := hv 28 (by decide) (by decide)
                simp only [List.take_succ_cons, List.take_zero, List.drop_succ_cons, List.drop_zero, putOps, Act.put, List.setIfInBounds_toArray, List.set_cons_zero, List.set_cons_succ, e137, e138, e148]
                have K12 := Lib.hid (K11.out.below hB K11.out.lt); have G12 := Lib.hid (G11.out.below hB G11.out.lt); have X12 := Lib.hid (X11.out.below hB X11.out.lt); have P12 := Lib.hid (P11.out.below hB P11.out.lt); have Q12 := Lib.hid (Q11.out.below hB Q11.out.lt); have O12 := Lib.hid (O11.out.below hB); have W12 := Lib.hid (W11.out.on hB); obtain ⟨A12, l', i', n'⟩ := L11.out.own2 hB; have L12 := Lib.hid l'; have MK12 := Lib.hid (i' _ MK11.out); have MG12 := Lib.hid (i' _ MG11.out); have MX12 := Lib.hid (i' _ MX11.out); have MP12 := Lib.hid (i' _ MP11.out); have MQ12 := Lib.hid (i' _ MQ11.out); have MO12 := Lib.hid (fun h g e => (MO11.out h g e).imp_right (i' g)); clear hv hap e137 e138 e148 hB l' i' n'
                generalize vs 0 = z0
                generalize vs 1 = z1
                generalize vs 2 = z2
                generalize vs 3 = z3
                generalize vs 4 = z4
                generalize vs 5 = z5
                generalize vs 6 = z6
                generalize vs 7 = z7
                generalize vs 8 = z8
                generalize vs 9 = z9
                generalize vs 10 = z10
                generalize vs 11 = z11
                generalize vs 12 = z12
                generalize vs 13 = z13
                generalize vs 14 = z14
                generalize vs 15 = z15
                generalize vs 16 = z16
                generalize vs 19 = z19
                generalize vs 20 = z20
                generalize vs 21 = z21
                generalize vs 22 = z22
                generalize vs 23 = z23
                generalize vs 24 = z24
                generalize vs 25 = z25
                generalize vs 26 = z26
                generalize vs 27 = z27
                have OC := Lib.hid (show Rd w12 (.slice (some ⟨u, 0, none⟩) 4200 cp) CUT by rw [HCUT.out]; exact O12.out.take 4200 (by rw [HAEl.out]; decide))
                have MOC := Lib.hid (fun (_ : 0 < CUT.length) g (e : (Value.slice (some ⟨u, 0, none⟩) 4200 cp).ownBlock = some g) => MO12.out (by rw [HAEl.out]; decide) g e)
                go_upto_region 28 with (first
                  | ((with_reducible show wpList _ _ _ (Oper.mk (some 152) (.slice _ _ _ _ _) _ _ _ _ :: _) _ _); refine wpList_wanted rfl (.slice (some ⟨u, 0, none⟩) 4200 cp) (HCS.out _ _ _ rfl rfl) ?_)
                  | (go_at_call 23; (with_reducible refine (HLD.out w12 s d _ (.slice (some ⟨u, 0, none⟩) 4200 cp) L12.out OC.out MOC.out).mono ?_); rintro e w13 ⟨rfl, ll, kk⟩; have L13 := Lib.hid ll; have K13 := Lib.hid (K12.out.kept kk (.inr MK12.out)); have MK13 := MK12; have G13 := Lib.hid (G12.out.kept kk (.inr MG12.out)); have MG13 := MG12; have X13 := Lib.hid (X12.out.kept kk (.inr MX12.out)); have MX13 := MX12; have P13 := Lib.hid (P12.out.kept kk (.inr MP12.out)); have MP13 := MP12; have Q13 := Lib.hid (Q12.out.kept kk (.inr MQ12.out)); have MQ13 := MQ12; have O13 := Lib.hid (O12.out.kept0 kk MO12.out); have MO13 := MO12; have W13 := Lib.hid (kk.below W12.out W12.out.size); clear kk ll)
                  | ((with_reducible show wpList _ _ _ (Oper.mk (some 156) (.load _ (.tmp 10)) _ _ _ _ :: _) _ _); refine wpList_load_wanted rfl 49 (.tmp 10) rfl rX 0 rfl RC _ X13.out.range Tryz.underlying49 rfl (by rw [RC33.out]; exact infoRfQ) ?_)
                  | (go_at_call 14; (with_reducible refine (HD2.out w13 s d _ L13.out).mono ?_); rintro e w14 ⟨y, rfl, bb⟩; have K14 := Lib.hid (K13.out.below bb K13.out.lt); have G14 := Lib.hid (G13.out.below bb G13.out.lt); have X14 := Lib.hid (X13.out.below bb X13.out.lt); have P14 := Lib.hid (P13.out.below bb P13.out.lt); have Q14 := Lib.hid (Q13.out.below bb Q13.out.lt); have O14 := Lib.hid (O13.out.below bb); have W14 := Lib.hid (W13.out.on bb); obtain ⟨A14, l', i', n'⟩ := L13.out.own2 bb; have L14 := Lib.hid l'; have MK14 := Lib.hid (i' _ MK13.out); have MG14 := Lib.hid (i' _ MG13.out); have MX14 := Lib.hid (i' _ MX13.out); have MP14 := Lib.hid (i' _ MP13.out); have MQ14 := Lib.hid (i' _ MQ13.out); have MO14 := Lib.hid (fun h g e => (MO13.out h g e).imp_right (i' g)); clear bb l' i' n')
                  | ((with_reducible show wpList _ _ _ (Oper.mk (some 162) (.load _ (.tmp 12)) _ _ _ _ :: _) _ _); refine wpList_load_wanted rfl 49 (.tmp 12) rfl rP 0 rfl PC _ P14.out.range Tryz.underlying49 rfl (by rw [PC33.out]; exact infoRfQ) ?_)
                  | (go_at_call 16; (with_reducible refine (HP2.out w14 s d _ L14.out).mono ?_); rintro e w15 ⟨y, rfl, bb⟩; have K15 := Lib.hid (K14.out.below bb K14.out.lt); have G15 := Lib.hid (G14.out.below bb G14.out.lt); have X15 := Lib.hid (X14.out.below bb X14.out.lt); have P15 := Lib.hid (P14.out.below bb P14.out.lt); have Q15 := Lib.hid (Q14.out.below bb Q14.out.lt); have O15 := Lib.hid (O14.out.below bb); have W15 := Lib.hid (W14.out.on bb); obtain ⟨A15, l', i', n'⟩ := L14.out.own2 bb; have L15 := Lib.hid l'; have MK15 := Lib.hid (i' _ MK14.out); have MG15 := Lib.hid (i' _ MG14.out); have MX15 := Lib.hid (i' _ MX14.out); have MP15 := Lib.hid (i' _ MP14.out); have MQ15 := Lib.hid (i' _ MQ14.out); have MO15 := Lib.hid (fun h g e => (MO14.out h g e).imp_right (i' g)); clear bb l' i' n'))
                refine wp_region_g (by kernel_rfl) 20 (by decide) (by kernel_rfl) (by kernel_rfl) (by kernel_rfl) w15.heap.size (Nat.le_refl _) [.val (.int .i64 40), .val (.bool true), .val (.bool true), .val (.int .i64 40), .val (.bool true), .val (.bool true), .val (.bool true), .val (.int .i64 40), .val (.bool true), .val (.bool true), .val (undef), .val (undef), .val (undef), .val (undef), .val (undef), .val (.bool true), .val (.bool true), .val (.bool true), .val (.bool true), .val (.bool true)] (fun _ => 20) ?_ ?_
                . refine ⟨?_, ?_, ?_, ?_, ?_, ?_, ?_, ?_, ?_, ?_, ?_, ?_, ?_, ?_, ?_, ?_, ?_, ?_, ?_, ?_, trivial⟩
                  . intro a w' hF hB hd
                    have e26 : a.eval (.tmp 26) = .int .i64 40 := hF 26 (by decide +kernel)
                    exact doesG_val rfl (ex_move rfl e26) rfl rfl
                  . intro a w' hF hB hd
                    have e166 : a.eval (.tmp 166) = .int .i64 40 := hd 0 (by decide +kernel) (.inr (by decide))
                    exact doesG_val rfl (ex_binOp rfl e166 rfl (by go_simp) (by go_simp)) rfl rfl
                  . intro a w' hF hB hd
                    have e167 : a.eval (.tmp 167) = .bool true := hd 1 (by decide +kernel) (.inr (by decide))
                    exact doesG_val rfl (ex_move rfl e167) rfl rfl
                  . intro a w' hF hB hd
                    have e168 : a.eval (.tmp 168) = .bool true := hd 2 (by decide +kernel) (.inr (by decide))
                    have e28 : a.eval (.tmp 28) = .int .i64 40 := hF 28 (by decide +kernel)
                    exact doesG_val (wanted_of rfl (yielded_of rfl e168)) (ex_move rfl e28) rfl rfl
                  . intro a w' hF hB hd
                    have e168 : a.eval (.tmp 168) = .bool true := hd 2 (by decide +kernel) (.inr (by decide))
                    have e169 : a.eval (.tmp 169) = .int .i64 40 := hd 3 (by decide +kernel) (.inr (by decide))
                    exact doesG_val (wanted_of rfl (yielded_of rfl e168)) (ex_binOp rfl e169 rfl (by go_simp) (by go_simp)) rfl rfl
                  . intro a w' hF hB hd
                    have e168 : a.eval (.tmp 168) = .bool true := hd 2 (by decide +kernel) (.inr (by decide))
                    have e170 : a.eval (.tmp 170) = .bool true := hd 4 (by decide +kernel) (.inr (by decide))
                    exact doesG_val rfl (ex_pick rfl e168 (by simp [e170])) rfl rfl
                  . intro a w' hF hB hd
                    have e171 : a.eval (.tmp 171) = .bool true := hd 5 (by decide +kernel) (.inr (by decide))
                    exact doesG_val rfl (ex_move rfl e171) rfl rfl
                  . intro a w' hF hB hd
                    have e172 : a.eval (.tmp 172) = .bool true := hd 6 (by decide +kernel) (.inr (by decide))
                    have e20 : a.eval (.tmp 20) = .int .i64 40 := hF 20 (by decide +kernel)
                    exact doesG_val (wanted_of rfl (yielded_of rfl e172)) (ex_move rfl e20) rfl rfl
                  . intro a w' hF hB hd
                    have e172 : a.eval (.tmp 172) = .bool true := hd 6 (by decide +kernel) (.inr (by decide))
                    have e173 : a.eval (.tmp 173) = .int .i64 40 := hd 7 (by decide +kernel) (.inr (by decide))
                    exact doesG_val (wanted_of rfl (yielded_of rfl e172)) (ex_binOp rfl e173 rfl (by go_simp) (by go_simp)) rfl rfl
                  . intro a w' hF hB hd
                    have e172 : a.eval (.tmp 172) = .bool true := hd 6 (by decide +kernel) (.inr (by decide))
                    have e174 : a.eval (.tmp 174) = .bool true := hd 8 (by decide +kernel) (.inr (by decide))
                    exact doesG_val (wanted_of rfl (yielded_of rfl e172)) (ex_move rfl e174) rfl rfl
                  . intro a w' hF hB hd
                    have e175 : a.eval (.tmp 175) = .bool true := hd 9 (by decide +kernel) (.inr (by decide))
                    exact doesG_skip (unwanted_of rfl (yielded_of rfl e175) (by decide)) rfl
                  . intro a w' hF hB hd
                    have e175 : a.eval (.tmp 175) = .bool true := hd 9 (by decide +kernel) (.inr (by decide))
                    exact doesG_skip (unwanted_of rfl (yielded_of rfl e175) (by decide)) rfl
                  . intro a w' hF hB hd
                    have e175 : a.eval (.tmp 175) = .bool true := hd 9 (by decide +kernel) (.inr (by decide))
                    exact doesG_skip (unwanted_of rfl (yielded_of rfl e175) (by decide)) rfl
                  . intro a w' hF hB hd
                    have e175 : a.eval (.tmp 175) = .bool true := hd 9 (by decide +kernel) (.inr (by decide))
                    exact doesG_skip (unwanted_of rfl (yielded_of rfl e175) (by decide)) rfl
                  . intro a w' hF hB hd
                    have e175 : a.eval (.tmp 175) = .bool true := hd 9 (by decide +kernel) (.inr (by decide))
                    exact doesG_skip (unwanted_of rfl (yielded_of rfl e175) (by decide)) rfl
                  . intro a w' hF hB hd
                    have e172 : a.eval (.tmp 172) = .bool true := hd 6 (by decide +kernel) (.inr (by decide))
                    have e175 : a.eval (.tmp 175) = .bool true := hd 9 (by decide +kernel) (.inr (by decide))
                    exact doesG_val (wanted_of rfl (yielded_of rfl e172)) (ex_pick rfl e175 (rfl)) rfl rfl
                  . intro a w' hF hB hd
                    have e172 : a.eval (.tmp 172) = .bool true := hd 6 (by decide +kernel) (.inr (by decide))
                    have e181 : a.eval (.tmp 181) = .bool true := hd 15 (by decide +kernel) (.inr (by decide))
                    exact doesG_val rfl (ex_pick rfl e172 (by simp [e181])) rfl rfl
                  . intro a w' hF hB hd
                    have e182 : a.eval (.tmp 182) = .bool true := hd 16 (by decide +kernel) (.inr (by decide))
                    exact doesG_val rfl (ex_move rfl e182) rfl rfl
                  . intro a w' hF hB hd
                    have e183 : a.eval (.tmp 183) = .bool true := hd 17 (by decide +kernel) (.inr (by decide))
                    exact doesG_call (wanted_of rfl (yielded_of rfl e183)) (ex_call (vs := #[]) rfl (by simp only [List.map_toArray, List.map_nil]) (by go_simp)) rfl ((HAW.out w' (W15.out.on hB)).mono fun e w3 hh => ⟨_, hh.1, rfl, hh.2⟩)
                  . intro a w' hF hB hd
                    have e183 : a.eval (.tmp 183) = .bool true := hd 17 (by decide +kernel) (.inr (by decide))
                    have e184 : a.eval (.tmp 184) = .bool true := hd 18 (by decide +kernel) (.inr (by decide))
                    exact doesG_val rfl (ex_pick rfl e183 (by simp [e184])) rfl rfl
                . intro vs w16 hB hv hap
                  have e185 : vs 19 = .bool true := hv 19 (by decide) (by decide)
                  simp only [List.take_succ_cons, List.take_zero, List.drop_succ_cons, List.drop_zero, putOps, Act.put, List.setIfInBounds_toArray, List.set_cons_zero, List.set_cons_succ, e185]
                  have W99 := Lib.hid (W15.out.on hB)
                  clear hv hap e185 hB
                  generalize vs 0 = y0
                  generalize vs 1 = y1
                  generalize vs 2 = y2
                  generalize vs 3 = y3
                  generalize vs 4 = y4
                  generalize vs 5 = y5
                  generalize vs 6 = y6
                  generalize vs 7 = y7
                  generalize vs 8 = y8
                  generalize vs 9 = y9
                  generalize vs 10 = y10
                  generalize vs 11 = y11
                  generalize vs 12 = y12
                  generalize vs 13 = y13
                  generalize vs 14 = y14
                  generalize vs 15 = y15
                  generalize vs 16 = y16
                  generalize vs 17 = y17
                  generalize vs 18 = y18
                  go_wp2_with fail
                  go_ret
                  exact ⟨rfl, W99.out⟩
          . have NEQ2 := Lib.hid (HE2.out t2)
            rcases T3.out with rfl | ⟨rfl, t3⟩
            . skip
              refine wp_region_g (by kernel_rfl) 29 (by decide) (by kernel_rfl) (by kernel_rfl) (by kernel_rfl) w11.heap.size (Nat.le_refl _) [.val (.int .i64 40), .val (.bool false), .val (.bool false), .val (undef), .val (undef), .val (.bool false), .val (.bool false), .val (.int .i64 0), .val (.bool true), .val (.bool true), .val (.slice (some ⟨u, 0, none⟩) 16384 cp), .val (.slice (some ⟨u, 4608, none⟩) 512 (cp - 4608)), .val (.agg Q2.toArray), .val (.pointer (some ⟨rP, 1, none⟩)), .val (.agg SM2.toArray), .val (.bool false), .val (.bool false), .val (.bool false), .val (.bool false), .val (.int .i64 40), .val (.bool false), .val (.bool false), .val (undef), .val (undef), .val (undef), .val (undef), .val (undef), .val (undef), .val (.bool false)] (fun _ => 29) ?_ ?_
              . refine ⟨?_, ?_, ?_, ?_, ?_, ?_, ?_, ?_, ?_, ?_, ?_, ?_, ?_, ?_, ?_, ?_, ?_, ?_, ?_, ?_, ?_, ?_, ?_, ?_, ?_, ?_, ?_, ?_, ?_, trivial⟩
                . intro a w' hF hB hd
                  have e20 : a.eval (.tmp 20) = .int .i64 40 := hF 20 (by decide +kernel)
                  exact doesG_val rfl (ex_move rfl e20) rfl rfl
                . intro a w' hF hB hd
                  have e120 : a.eval (.tmp 120) = .int .i64 40 := hd 0 (by decide +kernel) (.inr (by decide))
                  exact doesG_val rfl (ex_binOp rfl e120 rfl (by go_simp) (by go_simp)) rfl rfl
                . intro a w' hF hB hd
                  have e121 : a.eval (.tmp 121) = .bool false := hd 1 (by decide +kernel) (.inr (by decide))
                  exact doesG_val rfl (ex_move rfl e121) rfl rfl
                . intro a w' hF hB hd
                  have e122 : a.eval (.tmp 122) = .bool false := hd 2 (by decide +kernel) (.inr (by decide))
                  exact doesG_skip (unwanted_of rfl (yielded_of rfl e122) (by decide)) rfl
                . intro a w' hF hB hd
                  have e122 : a.eval (.tmp 122) = .bool false := hd 2 (by decide +kernel) (.inr (by decide))
                  exact doesG_skip (unwanted_of rfl (yielded_of rfl e122) (by decide)) rfl
                . intro a w' hF hB hd
                  have e122 : a.eval (.tmp 122) = .bool false := hd 2 (by decide +kernel) (.inr (by decide))
                  exact doesG_val rfl (ex_pick rfl e122 (rfl)) rfl rfl
                . intro a w' hF hB hd
                  have e125 : a.eval (.tmp 125) = .bool false := hd 5 (by decide +kernel) (.inr (by decide))
                  exact doesG_val rfl (ex_move rfl e125) rfl rfl
                . intro a w' hF hB hd
                  have e126 : a.eval (.tmp 126) = .bool false := hd 6 (by decide +kernel) (.inr (by decide))
                  have e22 : a.eval (.tmp 22) = .int .i64 0 := hF 22 (by decide +kernel)
                  exact doesG_val (wanted_of rfl (yielded_of rfl e126)) (ex_move rfl e22) rfl rfl
                . intro a w' hF hB hd
                  have e126 : a.eval (.tmp 126) = .bool false := hd 6 (by decide +kernel) (.inr (by decide))
                  have e127 : a.eval (.tmp 127) = .int .i64 0 := hd 7 (by decide +kernel) (.inr (by decide))
                  exact doesG_val (wanted_of rfl (yielded_of rfl e126)) (ex_binOp rfl e127 rfl (by go_simp) (by go_simp)) rfl rfl
                . intro a w' hF hB hd
                  have e126 : a.eval (.tmp 126) = .bool false := hd 6 (by decide +kernel) (.inr (by decide))
                  have e128 : a.eval (.tmp 128) = .bool true := hd 8 (by decide +kernel) (.inr (by decide))
                  exact doesG_val (wanted_of rfl (yielded_of rfl e126)) (ex_move rfl e128) rfl rfl
                . intro a w' hF hB hd
                  have e129 : a.eval (.tmp 129) = .bool true := hd 9 (by decide +kernel) (.inr (by decide))
                  have e16 : a.eval (.tmp 16) = .slice (some ⟨u, 0, none⟩) 16384 cp := hF 16 (by decide +kernel)
                  exact doesG_val (wanted_of rfl (yielded_of rfl e129)) (ex_move rfl e16) rfl rfl
                . intro a w' hF hB hd
                  have e129 : a.eval (.tmp 129) = .bool true := hd 9 (by decide +kernel) (.inr (by decide))
                  have e130 : a.eval (.tmp 130) = .slice (some ⟨u, 0, none⟩) 16384 cp := hd 10 (by decide +kernel) (.inr (by decide))
                  exact doesG_val (wanted_of rfl (yielded_of rfl e129)) (ex_slice_lh (k := 4608) (h := 5120) (cap := cp) (n := 16384) (ad := ⟨u, 0, none⟩) rfl e130 rfl rfl (by decide) (by have := HCP.out; omega) (by have := HCP.out; omega)) rfl rfl
                . intro a w' hF hB hd
                  have e129 : a.eval (.tmp 129) = .bool true := hd 9 (by decide +kernel) (.inr (by decide))
                  have e131 : a.eval (.tmp 131) = .slice (some ⟨u, 4608, none⟩) 512 (cp - 4608) := hd 11 (by decide +kernel) (.inr (by decide))
                  exact doesG_call (wanted_of rfl (yielded_of rfl e129)) (ex_call (vs := #[.slice (some ⟨u, 4608, none⟩) 512 (cp - 4608)]) rfl (by simp only [List.map_toArray, List.map_cons, List.map_nil, e131]) (by go_simp)) rfl ((HPS.out w' _ (W11.out.on hB) (RDP4608.out w' hB)).mono fun e w3 hh => ⟨_, hh.1, rfl, hh.2⟩)
                . intro a w' hF hB hd
                  have e129 : a.eval (.tmp 129) = .bool true := hd 9 (by decide +kernel) (.inr (by decide))
                  have e12 : a.eval (.tmp 12) = .pointer (some ⟨rP, 0, none⟩) := hF 12 (by decide +kernel)
                  exact doesG_val (wanted_of rfl (yielded_of rfl e129)) (ex_fieldAddr rfl e12 (by go_simp)) rfl rfl
                . intro a w' hF hB hd
                  have e129 : a.eval (.tmp 129) = .bool true := hd 9 (by decide +kernel) (.inr (by decide))
                  have e133 : a.eval (.tmp 133) = .pointer (some ⟨rP, 1, none⟩) := hd 13 (by decide +kernel) (.inr (by decide))
                  exact doesG_val (wanted_of rfl (yielded_of rfl e129)) (ex_load_part 47 (.tmp 133) rfl rP 1 e133 SM2 _ (SRP.out w' hB) Tryz.underlying47 rfl (by rw [SM232.out]; exact infoS)) rfl rfl
                . intro a w' hF hB hd
                  have e129 : a.eval (.tmp 129) = .bool true := hd 9 (by decide +kernel) (.inr (by decide))
                  have e132 : a.eval (.tmp 132) = .agg Q2.toArray := hd 12 (by decide +kernel) (.inr (by decide))
                  have e134 : a.eval (.tmp 134) = .agg SM2.toArray := hd 14 (by decide +kernel) (.inr (by decide))
                  exact doesG_val (wanted_of rfl (yielded_of rfl e129)) (ex_binOp rfl e132 e134 (run_eqGuard_agg (P := Tryz.prog) (w := w') .neq 47 _ _ _ _ eqTypeS) (NEQ2.out w')) rfl rfl
                . intro a w' hF hB hd
                  have e126 : a.eval (.tmp 126) = .bool false := hd 6 (by decide +kernel) (.inr (by decide))
                  have e129 : a.eval (.tmp 129) = .bool true := hd 9 (by decide +kernel) (.inr (by decide))
                  have e135 : a.eval (.tmp 135) = .bool false := hd 15 (by decide +kernel) (.inr (by decide))
                  exact doesG_val (wanted_of rfl (yielded_of rfl e126)) (ex_pick rfl e129 (by simp [e135])) rfl rfl
                . intro a w' hF hB hd
                  have e126 : a.eval (.tmp 126) = .bool false := hd 6 (by decide +kernel) (.inr (by decide))
                  have e136 : a.eval (.tmp 136) = .bool false := hd 16 (by decide +kernel) (.inr (by decide))
                  exact doesG_val rfl (ex_pick rfl e126 (by simp [e136])) rfl rfl
                . intro a w' hF hB hd
                  have e137 : a.eval (.tmp 137) = .bool false := hd 17 (by decide +kernel) (.inr (by decide))
                  exact doesG_val rfl (ex_move rfl e137) rfl rfl
                . intro a w' hF hB hd
                  have e138 : a.eval (.tmp 138) = .bool false := hd 18 (by decide +kernel) (.inr (by decide))
                  have e24 : a.eval (.tmp 24) = .int .i64 40 := hF 24 (by decide +kernel)
                  exact doesG_val (wanted_of rfl (yielded_of rfl e138)) (ex_move rfl e24) rfl rfl
                . intro a w' hF hB hd
                  have e138 : a.eval (.tmp 138) = .bool false := hd 18 (by decide +kernel) (.inr (by decide))
                  have e139 : a.eval (.tmp 139) = .int .i64 40 := hd 19 (by decide +kernel) (.inr (by decide))
                  exact doesG_val (wanted_of rfl (yielded_of rfl e138)) (ex_binOp rfl e139 rfl (by go_simp) (by go_simp)) rfl rfl
                . intro a w' hF hB hd
                  have e138 : a.eval (.tmp 138) = .bool false := hd 18 (by decide +kernel) (.inr (by decide))
                  have e140 : a.eval (.tmp 140) = .bool false := hd 20 (by decide +kernel) (.inr (by decide))
                  exact doesG_val (wanted_of rfl (yielded_of rfl e138)) (ex_move rfl e140) rfl rfl
                . intro a w' hF hB hd
                  have e141 : a.eval (.tmp 141) = .bool false := hd 21 (by decide +kernel) (.inr (by decide))
                  exact doesG_skip (unwanted_of rfl (yielded_of rfl e141) (by decide)) rfl
                . intro a w' hF hB hd
                  have e141 : a.eval (.tmp 141) = .bool false := hd 21 (by decide +kernel) (.inr (by decide))
                  exact doesG_skip (unwanted_of rfl (yielded_of rfl e141) (by decide)) rfl
                . intro a w' hF hB hd
                  have e141 : a.eval (.tmp 141) = .bool false := hd 21 (by decide +kernel) (.inr (by decide))
                  exact doesG_skip (unwanted_of rfl (yielded_of rfl e141) (by decide)) rfl
                . intro a w' hF hB hd
                  have e141 : a.eval (.tmp 141) = .bool false := hd 21 (by decide +kernel) (.inr (by decide))
                  exact doesG_skip (unwanted_of rfl (yielded_of rfl e141) (by decide)) rfl
                . intro a w' hF hB hd
                  have e141 : a.eval (.tmp 141) = .bool false := hd 21 (by decide +kernel) (.inr (by decide))
                  exact doesG_skip (unwanted_of rfl (yielded_of rfl e141) (by decide)) rfl
                . intro a w' hF hB hd
                  have e141 : a.eval (.tmp 141) = .bool false := hd 21 (by decide +kernel) (.inr (by decide))
                  exact doesG_skip (unwanted_of rfl (yielded_of rfl e141) (by decide)) rfl
                . intro a w' hF hB hd
                  have e138 : a.eval (.tmp 138) = .bool false := hd 18 (by decide +kernel) (.inr (by decide))
                  have e141 : a.eval (.tmp 141) = .bool false := hd 21 (by decide +kernel) (.inr (by decide))
                  exact doesG_val (wanted_of rfl (yielded_of rfl e138)) (ex_pick rfl e141 (rfl)) rfl rfl
              . intro vs w12 hB hv hap
                have e137 : vs 17 = .bool false := hv 17 (by decide) (by decide)
                have e138 : vs 18 = .bool false := hv 18 (by decide) (by decide)
                have e148 : vs 28 = .bool false := hv 28 (by decide) (by decide)
                simp only [List.take_succ_cons, List.take_zero, List.drop_succ_cons, List.drop_zero, putOps, Act.put, List.setIfInBounds_toArray, List.set_cons_zero, List.set_cons_succ, e137, e138, e148]
                have K12 := Lib.hid (K11.out.below hB K11.out.lt); have G12 := Lib.hid (G11.out.below hB G11.out.lt); have X12 := Lib.hid (X11.out.below hB X11.out.lt); have P12 := Lib.hid (P11.out.below hB P11.out.lt); have Q12 := Lib.hid (Q11.out.below hB Q11.out.lt); have O12 := Lib.hid (O11.out.below hB); have W12 := Lib.hid (W11.out.on hB); obtain ⟨A12, l', i', n'⟩ := L11.out.own2 hB; have L12 := Lib.hid l'; have MK12 := Lib.hid (i' _ MK11.out); have MG12 := Lib.hid (i' _ MG11.out); have MX12 := Lib.hid (i' _ MX11.out); have MP12 := Lib.hid (i' _ MP11.out); have MQ12 := Lib.hid (i' _ MQ11.out); have MO12 := Lib.hid (fun h g e => (MO11.out h g e).imp_right (i' g)); clear hv hap e137 e138 e148 hB l' i' n'
                generalize vs 0 = z0
                generalize vs 1 = z1
                generalize vs 2 = z2
                generalize vs 3 = z3
                generalize vs 4 = z4
                generalize vs 5 = z5
                generalize vs 6 = z6
                generalize vs 7 = z7
                generalize vs 8 = z8
                generalize vs 9 = z9
                generalize vs 10 = z10
                generalize vs 11 = z11
                generalize vs 12 = z12
                generalize vs 13 = z13
                generalize vs 14 = z14
                generalize vs 15 = z15
                generalize vs 16 = z16
                generalize vs 19 = z19
                generalize vs 20 = z20
                generalize vs 21 = z21
                generalize vs 22 = z22
                generalize vs 23 = z23
                generalize vs 24 = z24
                generalize vs 25 = z25
                generalize vs 26 = z26
                generalize vs 27 = z27
                have OC := Lib.hid (show Rd w12 (.slice (some ⟨u, 0, none⟩) 4200 cp) CUT by rw [HCUT.out]; exact O12.out.take 4200 (by rw [HAEl.out]; decide))
                have MOC := Lib.hid (fun (_ : 0 < CUT.length) g (e : (Value.slice (some ⟨u, 0, none⟩) 4200 cp).ownBlock = some g) => MO12.out (by rw [HAEl.out]; decide) g e)
                go_upto_region 28 with (first
                  | ((with_reducible show wpList _ _ _ (Oper.mk (some 152) (.slice _ _ _ _ _) _ _ _ _ :: _) _ _); refine wpList_wanted rfl (.slice (some ⟨u, 0, none⟩) 4200 cp) (HCS.out _ _ _ rfl rfl) ?_)
                  | (go_at_call 23; (with_reducible refine (HLD.out w12 s d _ (.slice (some ⟨u, 0, none⟩) 4200 cp) L12.out OC.out MOC.out).mono ?_); rintro e w13 ⟨rfl, ll, kk⟩; have L13 := Lib.hid ll; have K13 := Lib.hid (K12.out.kept kk (.inr MK12.out)); have MK13 := MK12; have G13 := Lib.hid (G12.out.kept kk (.inr MG12.out)); have MG13 := MG12; have X13 := Lib.hid (X12.out.kept kk (.inr MX12.out)); have MX13 := MX12; have P13 := Lib.hid (P12.out.kept kk (.inr MP12.out)); have MP13 := MP12; have Q13 := Lib.hid (Q12.out.kept kk (.inr MQ12.out)); have MQ13 := MQ12; have O13 := Lib.hid (O12.out.kept0 kk MO12.out); have MO13 := MO12; have W13 := Lib.hid (kk.below W12.out W12.out.size); clear kk ll)
                  | ((with_reducible show wpList _ _ _ (Oper.mk (some 156) (.load _ (.tmp 10)) _ _ _ _ :: _) _ _); refine wpList_load_wanted rfl 49 (.tmp 10) rfl rX 0 rfl RC _ X13.out.range Tryz.underlying49 rfl (by rw [RC33.out]; exact infoRfQ) ?_)
                  | (go_at_call 14; (with_reducible refine (HD2.out w13 s d _ L13.out).mono ?_); rintro e w14 ⟨y, rfl, bb⟩; have K14 := Lib.hid (K13.out.below bb K13.out.lt); have G14 := Lib.hid (G13.out.below bb G13.out.lt); have X14 := Lib.hid (X13.out.below bb X13.out.lt); have P14 := Lib.hid (P13.out.below bb P13.out.lt); have Q14 := Lib.hid (Q13.out.below bb Q13.out.lt); have O14 := Lib.hid (O13.out.below bb); have W14 := Lib.hid (W13.out.on bb); obtain ⟨A14, l', i', n'⟩ := L13.out.own2 bb; have L14 := Lib.hid l'; have MK14 := Lib.hid (i' _ MK13.out); have MG14 := Lib.hid (i' _ MG13.out); have MX14 := Lib.hid (i' _ MX13.out); have MP14 := Lib.hid (i' _ MP13.out); have MQ14 := Lib.hid (i' _ MQ13.out); have MO14 := Lib.hid (fun h g e => (MO13.out h g e).imp_right (i' g)); clear bb l' i' n')
                  | ((with_reducible show wpList _ _ _ (Oper.mk (some 162) (.load _ (.tmp 12)) _ _ _ _ :: _) _ _); refine wpList_load_wanted rfl 49 (.tmp 12) rfl rP 0 rfl PC _ P14.out.range Tryz.underlying49 rfl (by rw [PC33.out]; exact infoRfQ) ?_)
                  | (go_at_call 16; (with_reducible refine (HP2.out w14 s d _ L14.out).mono ?_); rintro e w15 ⟨y, rfl, bb⟩; have K15 := Lib.hid (K14.out.below bb K14.out.lt); have G15 := Lib.hid (G14.out.below bb G14.out.lt); have X15 := Lib.hid (X14.out.below bb X14.out.lt); have P15 := Lib.hid (P14.out.below bb P14.out.lt); have Q15 := Lib.hid (Q14.out.below bb Q14.out.lt); have O15 := Lib.hid (O14.out.below bb); have W15 := Lib.hid (W14.out.on bb); obtain ⟨A15, l', i', n'⟩ := L14.out.own2 bb; have L15 := Lib.hid l'; have MK15 := Lib.hid (i' _ MK14.out); have MG15 := Lib.hid (i' _ MG14.out); have MX15 := Lib.hid (i' _ MX14.out); have MP15 := Lib.hid (i' _ MP14.out); have MQ15 := Lib.hid (i' _ MQ14.out); have MO15 := Lib.hid (fun h g e => (MO14.out h g e).imp_right (i' g)); clear bb l' i' n'))
                refine wp_region_g (by kernel_rfl) 20 (by decide) (by kernel_rfl) (by kernel_rfl) (by kernel_rfl) w15.heap.size (Nat.le_refl _) [.val (.int .i64 40), .val (.bool true), .val (.bool true), .val (.int .i64 40), .val (.bool true), .val (.bool true), .val (.bool true), .val (.int .i64 40), .val (.bool true), .val (.bool true), .val (undef), .val (undef), .val (undef), .val (undef), .val (undef), .val (.bool true), .val (.bool true), .val (.bool true), .val (.bool true), .val (.bool true)] (fun _ => 20) ?_ ?_
                . refine ⟨?_, ?_, ?_, ?_, ?_, ?_, ?_, ?_, ?_, ?_, ?_, ?_, ?_, ?_, ?_, ?_, ?_, ?_, ?_, ?_, trivial⟩
                  . intro a w' hF hB hd
                    have e26 : a.eval (.tmp 26) = .int .i64 40 := hF 26 (by decide +kernel)
                    exact doesG_val rfl (ex_move rfl e26) rfl rfl
                  . intro a w' hF hB hd
                    have e166 : a.eval (.tmp 166) = .int .i64 40 := hd 0 (by decide +kernel) (.inr (by decide))
                    exact doesG_val rfl (ex_binOp rfl e166 rfl (by go_simp) (by go_simp)) rfl rfl
                  . intro a w' hF hB hd
                    have e167 : a.eval (.tmp 167) = .bool true := hd 1 (by decide +kernel) (.inr (by decide))
                    exact doesG_val rfl (ex_move rfl e167) rfl rfl
                  . intro a w' hF hB hd
                    have e168 : a.eval (.tmp 168) = .bool true := hd 2 (by decide +kernel) (.inr (by decide))
                    have e28 : a.eval (.tmp 28) = .int .i64 40 := hF 28 (by decide +kernel)
                    exact doesG_val (wanted_of rfl (yielded_of rfl e168)) (ex_move rfl e28) rfl rfl
                  . intro a w' hF hB hd
                    have e168 : a.eval (.tmp 168) = .bool true := hd 2 (by decide +kernel) (.inr (by decide))
                    have e169 : a.eval (.tmp 169) = .int .i64 40 := hd 3 (by decide +kernel) (.inr (by decide))
                    exact doesG_val (wanted_of rfl (yielded_of rfl e168)) (ex_binOp rfl e169 rfl (by go_simp) (by go_simp)) rfl rfl
                  . intro a w' hF hB hd
                    have e168 : a.eval (.tmp 168) = .bool true := hd 2 (by decide +kernel) (.inr (by decide))
                    have e170 : a.eval (.tmp 170) = .bool true := hd 4 (by decide +kernel) (.inr (by decide))
                    exact doesG_val rfl (ex_pick rfl e168 (by simp [e170])) rfl rfl
                  . intro a w' hF hB hd
                    have e171 : a.eval (.tmp 171) = .bool true := hd 5 (by decide +kernel) (.inr (by decide))
                    exact doesG_val rfl (ex_move rfl e171) rfl rfl
                  . intro a w' hF hB hd
                    have e172 : a.eval (.tmp 172) = .bool true := hd 6 (by decide +kernel) (.inr (by decide))
                    have e20 : a.eval (.tmp 20) = .int .i64 40 := hF 20 (by decide +kernel)
                    exact doesG_val (wanted_of rfl (yielded_of rfl e172)) (ex_move rfl e20) rfl rfl
                  . intro a w' hF hB hd
                    have e172 : a.eval (.tmp 172) = .bool true := hd 6 (by decide +kernel) (.inr (by decide))
                    have e173 : a.eval (.tmp 173) = .int .i64 40 := hd 7 (by decide +kernel) (.inr (by decide))
                    exact doesG_val (wanted_of rfl (yielded_of rfl e172)) (ex_binOp rfl e173 rfl (by go_simp) (by go_simp)) rfl rfl
                  . intro a w' hF hB hd
                    have e172 : a.eval (.tmp 172) = .bool true := hd 6 (by decide +kernel) (.inr (by decide))
                    have e174 : a.eval (.tmp 174) = .bool true := hd 8 (by decide +kernel) (.inr (by decide))
                    exact doesG_val (wanted_of rfl (yielded_of rfl e172)) (ex_move rfl e174) rfl rfl
                  . intro a w' hF hB hd
                    have e175 : a.eval (.tmp 175) = .bool true := hd 9 (by decide +kernel) (.inr (by decide))
                    exact doesG_skip (unwanted_of rfl (yielded_of rfl e175) (by decide)) rfl
                  . intro a w' hF hB hd
                    have e175 : a.eval (.tmp 175) = .bool true := hd 9 (by decide +kernel) (.inr (by decide))
                    exact doesG_skip (unwanted_of rfl (yielded_of rfl e175) (by decide)) rfl
                  . intro a w' hF hB hd
                    have e175 : a.eval (.tmp 175) = .bool true := hd 9 (by decide +kernel) (.inr (by decide))
                    exact doesG_skip (unwanted_of rfl (yielded_of rfl e175) (by decide)) rfl
                  . intro a w' hF hB hd
                    have e175 : a.eval (.tmp 175) = .bool true := hd 9 (by decide +kernel) (.inr (by decide))
                    exact doesG_skip (unwanted_of rfl (yielded_of rfl e175) (by decide)) rfl
                  . intro a w' hF hB hd
                    have e175 : a.eval (.tmp 175) = .bool true := hd 9 (by decide +kernel) (.inr (by decide))
                    exact doesG_skip (unwanted_of rfl (yielded_of rfl e175) (by decide)) rfl
                  . intro a w' hF hB hd
                    have e172 : a.eval (.tmp 172) = .bool true := hd 6 (by decide +kernel) (.inr (by decide))
                    have e175 : a.eval (.tmp 175) = .bool true := hd 9 (by decide +kernel) (.inr (by decide))
                    exact doesG_val (wanted_of rfl (yielded_of rfl e172)) (ex_pick rfl e175 (rfl)) rfl rfl
                  . intro a w' hF hB hd
                    have e172 : a.eval (.tmp 172) = .bool true := hd 6 (by decide +kernel) (.inr (by decide))
                    have e181 : a.eval (.tmp 181) = .bool true := hd 15 (by decide +kernel) (.inr (by decide))
                    exact doesG_val rfl (ex_pick rfl e172 (by simp [e181])) rfl rfl
                  . intro a w' hF hB hd
                    have e182 : a.eval (.tmp 182) = .bool true := hd 16 (by decide +kernel) (.inr (by decide))
                    exact doesG_val rfl (ex_move rfl e182) rfl rfl
                  . intro a w' hF hB hd
                    have e183 : a.eval (.tmp 183) = .bool true := hd 17 (by decide +kernel) (.inr (by decide))
                    exact doesG_call (wanted_of rfl (yielded_of rfl e183)) (ex_call (vs := #[]) rfl (by simp only [List.map_toArray, List.map_nil]) (by go_simp)) rfl ((HAW.out w' (W15.out.on hB)).mono fun e w3 hh => ⟨_, hh.1, rfl, hh.2⟩)
                  . intro a w' hF hB hd
                    have e183 : a.eval (.tmp 183) = .bool true := hd 17 (by decide +kernel) (.inr (by decide))
                    have e184 : a.eval (.tmp 184) = .bool true := hd 18 (by decide +kernel) (.inr (by decide))
                    exact doesG_val rfl (ex_pick rfl e183 (by simp [e184])) rfl rfl
                . intro vs w16 hB hv hap
                  have e185 : vs 19 = .bool true := hv 19 (by decide) (by decide)
                  simp only [List.take_succ_cons, List.take_zero, List.drop_succ_cons, List.drop_zero, putOps, Act.put, List.setIfInBounds_toArray, List.set_cons_zero, List.set_cons_succ, e185]
                  have W99 := Lib.hid (W15.out.on hB)
                  clear hv hap e185 hB
                  generalize vs 0 = y0
                  generalize vs 1 = y1
                  generalize vs 2 = y2
                  generalize vs 3 = y3
                  generalize vs 4 = y4
                  generalize vs 5 = y5
                  generalize vs 6 = y6
                  generalize vs 7 = y7
                  generalize vs 8 = y8
                  generalize vs 9 = y9
                  generalize vs 10 = y10
                  generalize vs 11 = y11
                  generalize vs 12 = y12
                  generalize vs 13 = y13
                  generalize vs 14 = y14
                  generalize vs 15 = y15
                  generalize vs 16 = y16
                  generalize vs 17 = y17
                  generalize vs 18 = y18
                  go_wp2_with fail
                  go_ret
                  exact ⟨rfl, W99.out⟩
            . have NEQ3 := Lib.hid (HE3.out t3)
              refine wp_region_g (by kernel_rfl) 29 (by decide) (by kernel_rfl) (by kernel_rfl) (by kernel_rfl) w11.heap.size (Nat.le_refl _) [.val (.int .i64 40), .val (.bool false), .val (.bool false), .val (undef), .val (undef), .val (.bool false), .val (.bool false), .val (.int .i64 0), .val (.bool true), .val (.bool true), .val (.slice (some ⟨u, 0, none⟩) 16384 cp), .val (.slice (some ⟨u, 4608, none⟩) 512 (cp - 4608)), .val (.agg Q2.toArray), .val (.pointer (some ⟨rP, 1, none⟩)), .val (.agg SM2.toArray), .val (.bool false), .val (.bool false), .val (.bool false), .val (.bool false), .val (.int .i64 0), .val (.bool true), .val (.bool true), .val (.slice (some ⟨u, 0, none⟩) 16384 cp), .val (.slice (some ⟨u, 5120, none⟩) 512 (cp - 5120)), .val (.agg Q3.toArray), .val (.pointer (some ⟨rQ, 1, none⟩)), .val (.agg SM3.toArray), .val (.bool false), .val (.bool false)] (fun _ => 29) ?_ ?_
              . refine ⟨?_, ?_, ?_, ?_, ?_, ?_, ?_, ?_, ?_, ?_, ?_, ?_, ?_, ?_, ?_, ?_, ?_, ?_, ?_, ?_, ?_, ?_, ?_, ?_, ?_, ?_, ?_, ?_, ?_, trivial⟩
                . intro a w' hF hB hd
                  have e20 : a.eval (.tmp 20) = .int .i64 40 := hF 20 (by decide +kernel)
                  exact doesG_val rfl (ex_move rfl e20) rfl rfl
                . intro a w' hF hB hd
                  have e120 : a.eval (.tmp 120) = .int .i64 40 := hd 0 (by decide +kernel) (.inr (by decide))
                  exact doesG_val rfl (ex_binOp rfl e120 rfl (by go_simp) (by go_simp)) rfl rfl
                . intro a w' hF hB hd
                  have e121 : a.eval (.tmp 121) = .bool false := hd 1 (by decide +kernel) (.inr (by decide))
                  exact doesG_val rfl (ex_move rfl e121) rfl rfl
                . intro a w' hF hB hd
                  have e122 : a.eval (.tmp 122) = .bool false := hd 2 (by decide +kernel) (.inr (by decide))
                  exact doesG_skip (unwanted_of rfl (yielded_of rfl e122) (by decide)) rfl
                . intro a w' hF hB hd
                  have e122 : a.eval (.tmp 122) = .bool false := hd 2 (by decide +kernel) (.inr (by decide))
                  exact doesG_skip (unwanted_of rfl (yielded_of rfl e122) (by decide)) rfl
                . intro a w' hF hB hd
                  have e122 : a.eval (.tmp 122) = .bool false := hd 2 (by decide +kernel) (.inr (by decide))
                  exact doesG_val rfl (ex_pick rfl e122 (rfl)) rfl rfl
                . intro a w' hF hB hd
                  have e125 : a.eval (.tmp 125) = .bool false := hd 5 (by decide +kernel) (.inr (by decide))
                  exact doesG_val rfl (ex_move rfl e125) rfl rfl
                . intro a w' hF hB hd
                  have e126 : a.eval (.tmp 126) = .bool false := hd 6 (by decide +kernel) (.inr (by decide))
                  have e22 : a.eval (.tmp 22) = .int .i64 0 := hF 22 (by decide +kernel)
                  exact doesG_val (wanted_of rfl (yielded_of rfl e126)) (ex_move rfl e22) rfl rfl
                . intro a w' hF hB hd
                  have e126 : a.eval (.tmp 126) = .bool false := hd 6 (by decide +kernel) (.inr (by decide))
                  have e127 : a.eval (.tmp 127) = .int .i64 0 := hd 7 (by decide +kernel) (.inr (by decide))
                  exact doesG_val (wanted_of rfl (yielded_of rfl e126)) (ex_binOp rfl e127 rfl (by go_simp) (by go_simp)) rfl rfl
                . intro a w' hF hB hd
                  have e126 : a.eval (.tmp 126) = .bool false := hd 6 (by decide +kernel) (.inr (by decide))
                  have e128 : a.eval (.tmp 128) = .bool true := hd 8 (by decide +kernel) (.inr (by decide))
                  exact doesG_val (wanted_of rfl (yielded_of rfl e126)) (ex_move rfl e128) rfl rfl
                . intro a w' hF hB hd
                  have e129 : a.eval (.tmp 129) = .bool true := hd 9 (by decide +kernel) (.inr (by decide))
                  have e16 : a.eval (.tmp 16) = .slice (some ⟨u, 0, none⟩) 16384 cp := hF 16 (by decide +kernel)
                  exact doesG_val (wanted_of rfl (yielded_of rfl e129)) (ex_move rfl e16) rfl rfl
                . intro a w' hF hB hd
                  have e129 : a.eval (.tmp 129) = .bool true := hd 9 (by decide +kernel) (.inr (by decide))
                  have e130 : a.eval (.tmp 130) = .slice (some ⟨u, 0, none⟩) 16384 cp := hd 10 (by decide +kernel) (.inr (by decide))
                  exact doesG_val (wanted_of rfl (yielded_of rfl e129)) (ex_slice_lh (k := 4608) (h := 5120) (cap := cp) (n := 16384) (ad := ⟨u, 0, none⟩) rfl e130 rfl rfl (by decide) (by have := HCP.out; omega) (by have := HCP.out; omega)) rfl rfl
                . intro a w' hF hB hd
                  have e129 : a.eval (.tmp 129) = .bool true := hd 9 (by decide +kernel) (.inr (by decide))
                  have e131 : a.eval (.tmp 131) = .slice (some ⟨u, 4608, none⟩) 512 (cp - 4608) := hd 11 (by decide +kernel) (.inr (by decide))
                  exact doesG_call (wanted_of rfl (yielded_of rfl e129)) (ex_call (vs := #[.slice (some ⟨u, 4608, none⟩) 512 (cp - 4608)]) rfl (by simp only [List.map_toArray, List.map_cons, List.map_nil, e131]) (by go_simp)) rfl ((HPS.out w' _ (W11.out.on hB) (RDP4608.out w' hB)).mono fun e w3 hh => ⟨_, hh.1, rfl, hh.2⟩)
                . intro a w' hF hB hd
                  have e129 : a.eval (.tmp 129) = .bool true := hd 9 (by decide +kernel) (.inr (by decide))
                  have e12 : a.eval (.tmp 12) = .pointer (some ⟨rP, 0, none⟩) := hF 12 (by decide +kernel)
                  exact doesG_val (wanted_of rfl (yielded_of rfl e129)) (ex_fieldAddr rfl e12 (by go_simp)) rfl rfl
                . intro a w' hF hB hd
                  have e129 : a.eval (.tmp 129) = .bool true := hd 9 (by decide +kernel) (.inr (by decide))
                  have e133 : a.eval (.tmp 133) = .pointer (some ⟨rP, 1, none⟩) := hd 13 (by decide +kernel) (.inr (by decide))
                  exact doesG_val (wanted_of rfl (yielded_of rfl e129)) (ex_load_part 47 (.tmp 133) rfl rP 1 e133 SM2 _ (SRP.out w' hB) Tryz.underlying47 rfl (by rw [SM232.out]; exact infoS)) rfl rfl
                . intro a w' hF hB hd
                  have e129 : a.eval (.tmp 129) = .bool true := hd 9 (by decide +kernel) (.inr (by decide))
                  have e132 : a.eval (.tmp 132) = .agg Q2.toArray := hd 12 (by decide +kernel) (.inr (by decide))
                  have e134 : a.eval (.tmp 134) = .agg SM2.toArray := hd 14 (by decide +kernel) (.inr (by decide))
                  exact doesG_val (wanted_of rfl (yielded_of rfl e129)) (ex_binOp rfl e132 e134 (run_eqGuard_agg (P := Tryz.prog) (w := w') .neq 47 _ _ _ _ eqTypeS) (NEQ2.out w')) rfl rfl
                . intro a w' hF hB hd
                  have e126 : a.eval (.tmp 126) = .bool false := hd 6 (by decide +kernel) (.inr (by decide))
                  have e129 : a.eval (.tmp 129) = .bool true := hd 9 (by decide +kernel) (.inr (by decide))
                  have e135 : a.eval (.tmp 135) = .bool false := hd 15 (by decide +kernel) (.inr (by decide))
                  exact doesG_val (wanted_of rfl (yielded_of rfl e126)) (ex_pick rfl e129 (by simp [e135])) rfl rfl
                . intro a w' hF hB hd
                  have e126 : a.eval (.tmp 126) = .bool false := hd 6 (by decide +kernel) (.inr (by decide))
                  have e136 : a.eval (.tmp 136) = .bool false := hd 16 (by decide +kernel) (.inr (by decide))
                  exact doesG_val rfl (ex_pick rfl e126 (by simp [e136])) rfl rfl
                . intro a w' hF hB hd
                  have e137 : a.eval (.tmp 137) = .bool false := hd 17 (by decide +kernel) (.inr (by decide))
                  exact doesG_val rfl (ex_move rfl e137) rfl rfl
                . intro a w' hF hB hd
                  have e138 : a.eval (.tmp 138) = .bool false := hd 18 (by decide +kernel) (.inr (by decide))
                  have e24 : a.eval (.tmp 24) = .int .i64 0 := hF 24 (by decide +kernel)
                  exact doesG_val (wanted_of rfl (yielded_of rfl e138)) (ex_move rfl e24) rfl rfl
                . intro a w' hF hB hd
                  have e138 : a.eval (.tmp 138) = .bool false := hd 18 (by decide +kernel) (.inr (by decide))
                  have e139 : a.eval (.tmp 139) = .int .i64 0 := hd 19 (by decide +kernel) (.inr (by decide))
                  exact doesG_val (wanted_of rfl (yielded_of rfl e138)) (ex_binOp rfl e139 rfl (by go_simp) (by go_simp)) rfl rfl
                . intro a w' hF hB hd
                  have e138 : a.eval (.tmp 138) = .bool false := hd 18 (by decide +kernel) (.inr (by decide))
                  have e140 : a.eval (.tmp 140) = .bool true := hd 20 (by decide +kernel) (.inr (by decide))
                  exact doesG_val (wanted_of rfl (yielded_of rfl e138)) (ex_move rfl e140) rfl rfl
                . intro a w' hF hB hd
                  have e141 : a.eval (.tmp 141) = .bool true := hd 21 (by decide +kernel) (.inr (by decide))
                  have e16 : a.eval (.tmp 16) = .slice (some ⟨u, 0, none⟩) 16384 cp := hF 16 (by decide +kernel)
                  exact doesG_val (wanted_of rfl (yielded_of rfl e141)) (ex_move rfl e16) rfl rfl
                . intro a w' hF hB hd
                  have e141 : a.eval (.tmp 141) = .bool true := hd 21 (by decide +kernel) (.inr (by decide))
                  have e142 : a.eval (.tmp 142) = .slice (some ⟨u, 0, none⟩) 16384 cp := hd 22 (by decide +kernel) (.inr (by decide))
                  exact doesG_val (wanted_of rfl (yielded_of rfl e141)) (ex_slice_lh (k := 5120) (h := 5632) (cap := cp) (n := 16384) (ad := ⟨u, 0, none⟩) rfl e142 rfl rfl (by decide) (by have := HCP.out; omega) (by have := HCP.out; omega)) rfl rfl
                . intro a w' hF hB hd
                  have e141 : a.eval (.tmp 141) = .bool true := hd 21 (by decide +kernel) (.inr (by decide))
                  have e143 : a.eval (.tmp 143) = .slice (some ⟨u, 5120, none⟩) 512 (cp - 5120) := hd 23 (by decide +kernel) (.inr (by decide))
                  exact doesG_call (wanted_of rfl (yielded_of rfl e141)) (ex_call (vs := #[.slice (some ⟨u, 5120, none⟩) 512 (cp - 5120)]) rfl (by simp only [List.map_toArray, List.map_cons, List.map_nil, e143]) (by go_simp)) rfl ((HNS.out w' _ (W11.out.on hB) (RDP5120.out w' hB)).mono fun e w3 hh => ⟨_, hh.1, rfl, hh.2⟩)
                . intro a w' hF hB hd
                  have e141 : a.eval (.tmp 141) = .bool true := hd 21 (by decide +kernel) (.inr (by decide))
                  have e14 : a.eval (.tmp 14) = .pointer (some ⟨rQ, 0, none⟩) := hF 14 (by decide +kernel)
                  exact doesG_val (wanted_of rfl (yielded_of rfl e141)) (ex_fieldAddr rfl e14 (by go_simp)) rfl rfl
                . intro a w' hF hB hd
                  have e141 : a.eval (.tmp 141) = .bool true := hd 21 (by decide +kernel) (.inr (by decide))
                  have e145 : a.eval (.tmp 145) = .pointer (some ⟨rQ, 1, none⟩) := hd 25 (by decide +kernel) (.inr (by decide))
                  exact doesG_val (wanted_of rfl (yielded_of rfl e141)) (ex_load_part 47 (.tmp 145) rfl rQ 1 e145 SM3 _ (SRQ.out w' hB) Tryz.underlying47 rfl (by rw [SM332.out]; exact infoS)) rfl rfl
                . intro a w' hF hB hd
                  have e141 : a.eval (.tmp 141) = .bool true := hd 21 (by decide +kernel) (.inr (by decide))
                  have e144 : a.eval (.tmp 144) = .agg Q3.toArray := hd 24 (by decide +kernel) (.inr (by decide))
                  have e146 : a.eval (.tmp 146) = .agg SM3.toArray := hd 26 (by decide +kernel) (.inr (by decide))
                  exact doesG_val (wanted_of rfl (yielded_of rfl e141)) (ex_binOp rfl e144 e146 (run_eqGuard_agg (P := Tryz.prog) (w := w') .neq 47 _ _ _ _ eqTypeS) (NEQ3.out w')) rfl rfl
                . intro a w' hF hB hd
                  have e138 : a.eval (.tmp 138) = .bool false := hd 18 (by decide +kernel) (.inr (by decide))
                  have e141 : a.eval (.tmp 141) = .bool true := hd 21 (by decide +kernel) (.inr (by decide))
                  have e147 : a.eval (.tmp 147) = .bool false := hd 27 (by decide +kernel) (.inr (by decide))
                  exact doesG_val (wanted_of rfl (yielded_of rfl e138)) (ex_pick rfl e141 (by simp [e147])) rfl rfl
              . intro vs w12 hB hv hap
                have e137 : vs 17 = .bool false := hv 17 (by decide) (by decide)
                have e138 : vs 18 = .bool false := hv 18 (by decide) (by decide)
                have e148 : vs 28 = .bool false := hv 28 (by decide) (by decide)
                simp only [List.take_succ_cons, List.take_zero, List.drop_succ_cons, List.drop_zero, putOps, Act.put, List.setIfInBounds_toArray, List.set_cons_zero, List.set_cons_succ, e137, e138, e148]
                have K12 := Lib.hid (K11.out.below hB K11.out.lt); have G12 := Lib.hid (G11.out.below hB G11.out.lt); have X12 := Lib.hid (X11.out.below hB X11.out.lt); have P12 := Lib.hid (P11.out.below hB P11.out.lt); have Q12 := Lib.hid (Q11.out.below hB Q11.out.lt); have O12 := Lib.hid (O11.out.below hB); have W12 := Lib.hid (W11.out.on hB); obtain ⟨A12, l', i', n'⟩ := L11.out.own2 hB; have L12 := Lib.hid l'; have MK12 := Lib.hid (i' _ MK11.out); have MG12 := Lib.hid (i' _ MG11.out); have MX12 := Lib.hid (i' _ MX11.out); have MP12 := Lib.hid (i' _ MP11.out); have MQ12 := Lib.hid (i' _ MQ11.out); have MO12 := Lib.hid (fun h g e => (MO11.out h g e).imp_right (i' g)); clear hv hap e137 e138 e148 hB l' i' n'
                generalize vs 0 = z0
                generalize vs 1 = z1
                generalize vs 2 = z2
                generalize vs 3 = z3
                generalize vs 4 = z4
                generalize vs 5 = z5
                generalize vs 6 = z6
                generalize vs 7 = z7
                generalize vs 8 = z8
                generalize vs 9 = z9
                generalize vs 10 = z10
                generalize vs 11 = z11
                generalize vs 12 = z12
                generalize vs 13 = z13
                generalize vs 14 = z14
                generalize vs 15 = z15
                generalize vs 16 = z16
                generalize vs 19 = z19
                generalize vs 20 = z20
                generalize vs 21 = z21
                generalize vs 22 = z22
                generalize vs 23 = z23
                generalize vs 24 = z24
                generalize vs 25 = z25
                generalize vs 26 = z26
                generalize vs 27 = z27
                have OC := Lib.hid (show Rd w12 (.slice (some ⟨u, 0, none⟩) 4200 cp) CUT by rw [HCUT.out]; exact O12.out.take 4200 (by rw [HAEl.out]; decide))
                have MOC := Lib.hid (fun (_ : 0 < CUT.length) g (e : (Value.slice (some ⟨u, 0, none⟩) 4200 cp).ownBlock = some g) => MO12.out (by rw [HAEl.out]; decide) g e)
                go_upto_region 28 with (first
                  | ((with_reducible show wpList _ _ _ (Oper.mk (some 152) (.slice _ _ _ _ _) _ _ _ _ :: _) _ _); refine wpList_wanted rfl (.slice (some ⟨u, 0, none⟩) 4200 cp) (HCS.out _ _ _ rfl rfl) ?_)
                  | (go_at_call 23; (with_reducible refine (HLD.out w12 s d _ (.slice (some ⟨u, 0, none⟩) 4200 cp) L12.out OC.out MOC.out).mono ?_); rintro e w13 ⟨rfl, ll, kk⟩; have L13 := Lib.hid ll; have K13 := Lib.hid (K12.out.kept kk (.inr MK12.out)); have MK13 := MK12; have G13 := Lib.hid (G12.out.kept kk (.inr MG12.out)); have MG13 := MG12; have X13 := Lib.hid (X12.out.kept kk (.inr MX12.out)); have MX13 := MX12; have P13 := Lib.hid (P12.out.kept kk (.inr MP12.out)); have MP13 := MP12; have Q13 := Lib.hid (Q12.out.kept kk (.inr MQ12.out)); have MQ13 := MQ12; have O13 := Lib.hid (O12.out.kept0 kk MO12.out); have MO13 := MO12; have W13 := Lib.hid (kk.below W12.out W12.out.size); clear kk ll)
                  | ((with_reducible show wpList _ _ _ (Oper.mk (some 156) (.load _ (.tmp 10)) _ _ _ _ :: _) _ _); refine wpList_load_wanted rfl 49 (.tmp 10) rfl rX 0 rfl RC _ X13.out.range Tryz.underlying49 rfl (by rw [RC33.out]; exact infoRfQ) ?_)
                  | (go_at_call 14; (with_reducible refine (HD2.out w13 s d _ L13.out).mono ?_); rintro e w14 ⟨y, rfl, bb⟩; have K14 := Lib.hid (K13.out.below bb K13.out.lt); have G14 := Lib.hid (G13.out.below bb G13.out.lt); have X14 := Lib.hid (X13.out.below bb X13.out.lt); have P14 := Lib.hid (P13.out.below bb P13.out.lt); have Q14 := Lib.hid (Q13.out.below bb Q13.out.lt); have O14 := Lib.hid (O13.out.below bb); have W14 := Lib.hid (W13.out.on bb); obtain ⟨A14, l', i', n'⟩ := L13.out.own2 bb; have L14 := Lib.hid l'; have MK14 := Lib.hid (i' _ MK13.out); have MG14 := Lib.hid (i' _ MG13.out); have MX14 := Lib.hid (i' _ MX13.out); have MP14 := Lib.hid (i' _ MP13.out); have MQ14 := Lib.hid (i' _ MQ13.out); have MO14 := Lib.hid (fun h g e => (MO13.out h g e).imp_right (i' g)); clear bb l' i' n')
                  | ((with_reducible show wpList _ _ _ (Oper.mk (some 162) (.load _ (.tmp 12)) _ _ _ _ :: _) _ _); refine wpList_load_wanted rfl 49 (.tmp 12) rfl rP 0 rfl PC _ P14.out.range Tryz.underlying49 rfl (by rw [PC33.out]; exact infoRfQ) ?_)
                  | (go_at_call 16; (with_reducible refine (HP2.out w14 s d _ L14.out).mono ?_); rintro e w15 ⟨y, rfl, bb⟩; have K15 := Lib.hid (K14.out.below bb K14.out.lt); have G15 := Lib.hid (G14.out.below bb G14.out.lt); have X15 := Lib.hid (X14.out.below bb X14.out.lt); have P15 := Lib.hid (P14.out.below bb P14.out.lt); have Q15 := Lib.hid (Q14.out.below bb Q14.out.lt); have O15 := Lib.hid (O14.out.below bb); have W15 := Lib.hid (W14.out.on bb); obtain ⟨A15, l', i', n'⟩ := L14.out.own2 bb; have L15 := Lib.hid l'; have MK15 := Lib.hid (i' _ MK14.out); have MG15 := Lib.hid (i' _ MG14.out); have MX15 := Lib.hid (i' _ MX14.out); have MP15 := Lib.hid (i' _ MP14.out); have MQ15 := Lib.hid (i' _ MQ14.out); have MO15 := Lib.hid (fun h g e => (MO14.out h g e).imp_right (i' g)); clear bb l' i' n'))
                refine wp_region_g (by kernel_rfl) 20 (by decide) (by kernel_rfl) (by kernel_rfl) (by kernel_rfl) w15.heap.size (Nat.le_refl _) [.val (.int .i64 40), .val (.bool true), .val (.bool true), .val (.int .i64 40), .val (.bool true), .val (.bool true), .val (.bool true), .val (.int .i64 40), .val (.bool true), .val (.bool true), .val (undef), .val (undef), .val (undef), .val (undef), .val (undef), .val (.bool true), .val (.bool true), .val (.bool true), .val (.bool true), .val (.bool true)] (fun _ => 20) ?_ ?_
                . refine ⟨?_, ?_, ?_, ?_, ?_, ?_, ?_, ?_, ?_, ?_, ?_, ?_, ?_, ?_, ?_, ?_, ?_, ?_, ?_, ?_, trivial⟩
                  . intro a w' hF hB hd
                    have e26 : a.eval (.tmp 26) = .int .i64 40 := hF 26 (by decide +kernel)
                    exact doesG_val rfl (ex_move rfl e26) rfl rfl
                  . intro a w' hF hB hd
                    have e166 : a.eval (.tmp 166) = .int .i64 40 := hd 0 (by decide +kernel) (.inr (by decide))
                    exact doesG_val rfl (ex_binOp rfl e166 rfl (by go_simp) (by go_simp)) rfl rfl
                  . intro a w' hF hB hd
                    have e167 : a.eval (.tmp 167) = .bool true := hd 1 (by decide +kernel) (.inr (by decide))
                    exact doesG_val rfl (ex_move rfl e167) rfl rfl
                  . intro a w' hF hB hd
                    have e168 : a.eval (.tmp 168) = .bool true := hd 2 (by decide +kernel) (.inr (by decide))
                    have e28 : a.eval (.tmp 28) = .int .i64 40 := hF 28 (by decide +kernel)
                    exact doesG_val (wanted_of rfl (yielded_of rfl e168)) (ex_move rfl e28) rfl rfl
                  . intro a w' hF hB hd
                    have e168 : a.eval (.tmp 168) = .bool true := hd 2 (by decide +kernel) (.inr (by decide))
                    have e169 : a.eval (.tmp 169) = .int .i64 40 := hd 3 (by decide +kernel) (.inr (by decide))
                    exact doesG_val (wanted_of rfl (yielded_of rfl e168)) (ex_binOp rfl e169 rfl (by go_simp) (by go_simp)) rfl rfl
                  . intro a w' hF hB hd
                    have e168 : a.eval (.tmp 168) = .bool true := hd 2 (by decide +kernel) (.inr (by decide))
                    have e170 : a.eval (.tmp 170) = .bool true := hd 4 (by decide +kernel) (.inr (by decide))
                    exact doesG_val rfl (ex_pick rfl e168 (by simp [e170])) rfl rfl
                  . intro a w' hF hB hd
                    have e171 : a.eval (.tmp 171) = .bool true := hd 5 (by decide +kernel) (.inr (by decide))
                    exact doesG_val rfl (ex_move rfl e171) rfl rfl
                  . intro a w' hF hB hd
                    have e172 : a.eval (.tmp 172) = .bool true := hd 6 (by decide +kernel) (.inr (by decide))
                    have e20 : a.eval (.tmp 20) = .int .i64 40 := hF 20 (by decide +kernel)
                    exact doesG_val (wanted_of rfl (yielded_of rfl e172)) (ex_move rfl e20) rfl rfl
                  . intro a w' hF hB hd
                    have e172 : a.eval (.tmp 172) = .bool true := hd 6 (by decide +kernel) (.inr (by decide))
                    have e173 : a.eval (.tmp 173) = .int .i64 40 := hd 7 (by decide +kernel) (.inr (by decide))
                    exact doesG_val (wanted_of rfl (yielded_of rfl e172)) (ex_binOp rfl e173 rfl (by go_simp) (by go_simp)) rfl rfl
                  . intro a w' hF hB hd
                    have e172 : a.eval (.tmp 172) = .bool true := hd 6 (by decide +kernel) (.inr (by decide))
                    have e174 : a.eval (.tmp 174) = .bool true := hd 8 (by decide +kernel) (.inr (by decide))
                    exact doesG_val (wanted_of rfl (yielded_of rfl e172)) (ex_move rfl e174) rfl rfl
                  . intro a w' hF hB hd
                    have e175 : a.eval (.tmp 175) = .bool true := hd 9 (by decide +kernel) (.inr (by decide))
                    exact doesG_skip (unwanted_of rfl (yielded_of rfl e175) (by decide)) rfl
                  . intro a w' hF hB hd
                    have e175 : a.eval (.tmp 175) = .bool true := hd 9 (by decide +kernel) (.inr (by decide))
                    exact doesG_skip (unwanted_of rfl (yielded_of rfl e175) (by decide)) rfl
                  . intro a w' hF hB hd
                    have e175 : a.eval (.tmp 175) = .bool true := hd 9 (by decide +kernel) (.inr (by decide))
                    exact doesG_skip (unwanted_of rfl (yielded_of rfl e175) (by decide)) rfl
                  . intro a w' hF hB hd
                    have e175 : a.eval (.tmp 175) = .bool true := hd 9 (by decide +kernel) (.inr (by decide))
                    exact doesG_skip (unwanted_of rfl (yielded_of rfl e175) (by decide)) rfl
                  . intro a w' hF hB hd
                    have e175 : a.eval (.tmp 175) = .bool true := hd 9 (by decide +kernel) (.inr (by decide))
                    exact doesG_skip (unwanted_of rfl (yielded_of rfl e175) (by decide)) rfl
                  . intro a w' hF hB hd
                    have e172 : a.eval (.tmp 172) = .bool true := hd 6 (by decide +kernel) (.inr (by decide))
                    have e175 : a.eval (.tmp 175) = .bool true := hd 9 (by decide +kernel) (.inr (by decide))
                    exact doesG_val (wanted_of rfl (yielded_of rfl e172)) (ex_pick rfl e175 (rfl)) rfl rfl
                  . intro a w' hF hB hd
                    have e172 : a.eval (.tmp 172) = .bool true := hd 6 (by decide +kernel) (.inr (by decide))
                    have e181 : a.eval (.tmp 181) = .bool true := hd 15 (by decide +kernel) (.inr (by decide))
                    exact doesG_val rfl (ex_pick rfl e172 (by simp [e181])) rfl rfl
                  . intro a w' hF hB hd
                    have e182 : a.eval (.tmp 182) = .bool true := hd 16 (by decide +kernel) (.inr (by decide))
                    exact doesG_val rfl (ex_move rfl e182) rfl rfl
                  . intro a w' hF hB hd
                    have e183 : a.eval (.tmp 183) = .bool true := hd 17 (by decide +kernel) (.inr (by decide))
                    exact doesG_call (wanted_of rfl (yielded_of rfl e183)) (ex_call (vs := #[]) rfl (by simp only [List.map_toArray, List.map_nil]) (by go_simp)) rfl ((HAW.out w' (W15.out.on hB)).mono fun e w3 hh => ⟨_, hh.1, rfl, hh.2⟩)
                  . intro a w' hF hB hd
                    have e183 : a.eval (.tmp 183) = .bool true := hd 17 (by decide +kernel) (.inr (by decide))
                    have e184 : a.eval (.tmp 184) = .bool true := hd 18 (by decide +kernel) (.inr (by decide))
                    exact doesG_val rfl (ex_pick rfl e183 (by simp [e184])) rfl rfl
                . intro vs w16 hB hv hap
                  have e185 : vs 19 = .bool true := hv 19 (by decide) (by decide)
                  simp only [List.take_succ_cons, List.take_zero, List.drop_succ_cons, List.drop_zero, putOps, Act.put, List.setIfInBounds_toArray, List.set_cons_zero, List.set_cons_succ, e185]
                  have W99 := Lib.hid (W15.out.on hB)
                  clear hv hap e185 hB
                  generalize vs 0 = y0
                  generalize vs 1 = y1
                  generalize vs 2 = y2
                  generalize vs 3 = y3
                  generalize vs 4 = y4
                  generalize vs 5 = y5
                  generalize vs 6 = y6
                  generalize vs 7 = y7
                  generalize vs 8 = y8
                  generalize vs 9 = y9
                  generalize vs 10 = y10
                  generalize vs 11 = y11
                  generalize vs 12 = y12
                  generalize vs 13 = y13
                  generalize vs 14 = y14
                  generalize vs 15 = y15
                  generalize vs 16 = y16
                  generalize vs 17 = y17
                  generalize vs 18 = y18
                  go_wp2_with fail
                  go_ret
                  exact ⟨rfl, W99.out⟩
        . have hDB := HE1.out t1
          subst hDB
          rcases T2.out with rfl | ⟨rfl, t2⟩
          . rcases T3.out with rfl | ⟨rfl, t3⟩
            . skip
              refine wp_region_g (by kernel_rfl) 29 (by decide) (by kernel_rfl) (by kernel_rfl) (by kernel_rfl) w11.heap.size (Nat.le_refl _) [.val (.int .i64 0), .val (.bool true), .val (.bool true), .val (.int .i64 0), .val (.bool false), .val (.bool false), .val (.bool false), .val (.int .i64 40), .val (.bool false), .val (.bool false), .val (undef), .val (undef), .val (undef), .val (undef), .val (undef), .val (undef), .val (.bool false), .val (.bool false), .val (.bool false), .val (.int .i64 40), .val (.bool false), .val (.bool false), .val (undef), .val (undef), .val (undef), .val (undef), .val (undef), .val (undef), .val (.bool false)] (fun _ => 29) ?_ ?_
              . refine ⟨?_, ?_, ?_, ?_, ?_, ?_, ?_, ?_, ?_, ?_, ?_, ?_, ?_, ?_, ?_, ?_, ?_, ?_, ?_, ?_, ?_, ?_, ?_, ?_, ?_, ?_, ?_, ?_, ?_, trivial⟩
                . intro a w' hF hB hd
                  have e20 : a.eval (.tmp 20) = .int .i64 0 := hF 20 (by decide +kernel)
                  exact doesG_val rfl (ex_move rfl e20) rfl rfl
                . intro a w' hF hB hd
                  have e120 : a.eval (.tmp 120) = .int .i64 0 := hd 0 (by decide +kernel) (.inr (by decide))
                  exact doesG_val rfl (ex_binOp rfl e120 rfl (by go_simp) (by go_simp)) rfl rfl
                . intro a w' hF hB hd
                  have e121 : a.eval (.tmp 121) = .bool true := hd 1 (by decide +kernel) (.inr (by decide))
                  exact doesG_val rfl (ex_move rfl e121) rfl rfl
                . intro a w' hF hB hd
                  have e122 : a.eval (.tmp 122) = .bool true := hd 2 (by decide +kernel) (.inr (by decide))
                  have e20 : a.eval (.tmp 20) = .int .i64 0 := hF 20 (by decide +kernel)
                  exact doesG_val (wanted_of rfl (yielded_of rfl e122)) (ex_move rfl e20) rfl rfl
                . intro a w' hF hB hd
                  have e122 : a.eval (.tmp 122) = .bool true := hd 2 (by decide +kernel) (.inr (by decide))
                  have e123 : a.eval (.tmp 123) = .int .i64 0 := hd 3 (by decide +kernel) (.inr (by decide))
                  exact doesG_val (wanted_of rfl (yielded_of rfl e122)) (ex_binOp rfl e123 rfl (by go_simp) (by go_simp)) rfl rfl
                . intro a w' hF hB hd
                  have e122 : a.eval (.tmp 122) = .bool true := hd 2 (by decide +kernel) (.inr (by decide))
                  have e124 : a.eval (.tmp 124) = .bool false := hd 4 (by decide +kernel) (.inr (by decide))
                  exact doesG_val rfl (ex_pick rfl e122 (by simp [e124])) rfl rfl
                . intro a w' hF hB hd
                  have e125 : a.eval (.tmp 125) = .bool false := hd 5 (by decide +kernel) (.inr (by decide))
                  exact doesG_val rfl (ex_move rfl e125) rfl rfl
                . intro a w' hF hB hd
                  have e126 : a.eval (.tmp 126) = .bool false := hd 6 (by decide +kernel) (.inr (by decide))
                  have e22 : a.eval (.tmp 22) = .int .i64 40 := hF 22 (by decide +kernel)
                  exact doesG_val (wanted_of rfl (yielded_of rfl e126)) (ex_move rfl e22) rfl rfl
                . intro a w' hF hB hd
                  have e126 : a.eval (.tmp 126) = .bool false := hd 6 (by decide +kernel) (.inr (by decide))
                  have e127 : a.eval (.tmp 127) = .int .i64 40 := hd 7 (by decide +kernel) (.inr (by decide))
                  exact doesG_val (wanted_of rfl (yielded_of rfl e126)) (ex_binOp rfl e127 rfl (by go_simp) (by go_simp)) rfl rfl
                . intro a w' hF hB hd
                  have e126 : a.eval (.tmp 126) = .bool false := hd 6 (by decide +kernel) (.inr (by decide))
                  have e128 : a.eval (.tmp 128) = .bool false := hd 8 (by decide +kernel) (.inr (by decide))
                  exact doesG_val (wanted_of rfl (yielded_of rfl e126)) (ex_move rfl e128) rfl rfl
                . intro a w' hF hB hd
                  have e129 : a.eval (.tmp 129) = .bool false := hd 9 (by decide +kernel) (.inr (by decide))
                  exact doesG_skip (unwanted_of rfl (yielded_of rfl e129) (by decide)) rfl
                . intro a w' hF hB hd
                  have e129 : a.eval (.tmp 129) = .bool false := hd 9 (by decide +kernel) (.inr (by decide))
                  exact doesG_skip (unwanted_of rfl (yielded_of rfl e129) (by decide)) rfl
                . intro a w' hF hB hd
                  have e129 : a.eval (.tmp 129) = .bool false := hd 9 (by decide +kernel) (.inr (by decide))
                  exact doesG_skip (unwanted_of rfl (yielded_of rfl e129) (by decide)) rfl
                . intro a w' hF hB hd
                  have e129 : a.eval (.tmp 129) = .bool false := hd 9 (by decide +kernel) (.inr (by decide))
                  exact doesG_skip (unwanted_of rfl (yielded_of rfl e129) (by decide)) rfl
                . intro a w' hF hB hd
                  have e129 : a.eval (.tmp 129) = .bool false := hd 9 (by decide +kernel) (.inr (by decide))
                  exact doesG_skip (unwanted_of rfl (yielded_of rfl e129) (by decide)) rfl
                . intro a w' hF hB hd
                  have e129 : a.eval (.tmp 129) = .bool false := hd 9 (by decide +kernel) (.inr (by decide))
                  exact doesG_skip (unwanted_of rfl (yielded_of rfl e129) (by decide)) rfl
                . intro a w' hF hB hd
                  have e126 : a.eval (.tmp 126) = .bool false := hd 6 (by decide +kernel) (.inr (by decide))
                  have e129 : a.eval (.tmp 129) = .bool false := hd 9 (by decide +kernel) (.inr (by decide))
                  exact doesG_val (wanted_of rfl (yielded_of rfl e126)) (ex_pick rfl e129 (rfl)) rfl rfl
                . intro a w' hF hB hd
                  have e126 : a.eval (.tmp 126) = .bool false := hd 6 (by decide +kernel) (.inr (by decide))
                  have e136 : a.eval (.tmp 136) = .bool false := hd 16 (by decide +kernel) (.inr (by decide))
                  exact doesG_val rfl (ex_pick rfl e126 (by simp [e136])) rfl rfl
                . intro a w' hF hB hd
                  have e137 : a.eval (.tmp 137) = .bool false := hd 17 (by decide +kernel) (.inr (by decide))
                  exact doesG_val rfl (ex_move rfl e137) rfl rfl
                . intro a w' hF hB hd
                  have e138 : a.eval (.tmp 138) = .bool false := hd 18 (by decide +kernel) (.inr (by decide))
                  have e24 : a.eval (.tmp 24) = .int .i64 40 := hF 24 (by decide +kernel)
                  exact doesG_val (wanted_of rfl (yielded_of rfl e138)) (ex_move rfl e24) rfl rfl
                . intro a w' hF hB hd
                  have e138 : a.eval (.tmp 138) = .bool false := hd 18 (by decide +kernel) (.inr (by decide))
                  have e139 : a.eval (.tmp 139) = .int .i64 40 := hd 19 (by decide +kernel) (.inr (by decide))
                  exact doesG_val (wanted_of rfl (yielded_of rfl e138)) (ex_binOp rfl e139 rfl (by go_simp) (by go_simp)) rfl rfl
                . intro a w' hF hB hd
                  have e138 : a.eval (.tmp 138) = .bool false := hd 18 (by decide +kernel) (.inr (by decide))
                  have e140 : a.eval (.tmp 140) = .bool false := hd 20 (by decide +kernel) (.inr (by decide))
                  exact doesG_val (wanted_of rfl (yielded_of rfl e138)) (ex_move rfl e140) rfl rfl
                . intro a w' hF hB hd
                  have e141 : a.eval (.tmp 141) = .bool false := hd 21 (by decide +kernel) (.inr (by decide))
                  exact doesG_skip (unwanted_of rfl (yielded_of rfl e141) (by decide)) rfl
                . intro a w' hF hB hd
                  have e141 : a.eval (.tmp 141) = .bool false := hd 21 (by decide +kernel) (.inr (by decide))
                  exact doesG_skip (unwanted_of rfl (yielded_of rfl e141) (by decide)) rfl
                . intro a w' hF hB hd
                  have e141 : a.eval (.tmp 141) = .bool false := hd 21 (by decide +kernel) (.inr (by decide))
                  exact doesG_skip (unwanted_of rfl (yielded_of rfl e141) (by decide)) rfl
                . intro a w' hF hB hd
                  have e141 : a.eval (.tmp 141) = .bool false := hd 21 (by decide +kernel) (.inr (by decide))
                  exact doesG_skip (unwanted_of rfl (yielded_of rfl e141) (by decide)) rfl
                . intro a w' hF hB hd
                  have e141 : a.eval (.tmp 141) = .bool false := hd 21 (by decide +kernel) (.inr (by decide))
                  exact doesG_skip (unwanted_of rfl (yielded_of rfl e141) (by decide)) rfl
                . intro a w' hF hB hd
                  have e141 : a.eval (.tmp 141) = .bool false := hd 21 (by decide +kernel) (.inr (by decide))
                  exact doesG_skip (unwanted_of rfl (yielded_of rfl e141) (by decide)) rfl
                . intro a w' hF hB hd
                  have e138 : a.eval (.tmp 138) = .bool false := hd 18 (by decide +kernel) (.inr (by decide))
                  have e141 : a.eval (.tmp 141) = .bool false := hd 21 (by decide +kernel) (.inr (by decide))
                  exact doesG_val (wanted_of rfl (yielded_of rfl e138)) (ex_pick rfl e141 (rfl)) rfl rfl
              . intro vs w12 hB hv hap
                have e137 : vs 17 = .bool false := hv 17 (by decide) (by decide)
                have e138 : vs 18 = .bool false := hv 18 (by decide) (by decide)
                have e148 : vs 28 = .bool false := hv 28 (by decide) (by decide)
                simp only [List.take_succ_cons, List.take_zero, List.drop_succ_cons, List.drop_zero, putOps, Act.put, List.setIfInBounds_toArray, List.set_cons_zero, List.set_cons_succ, e137, e138, e148]
                have K12 := Lib.hid (K11.out.below hB K11.out.lt); have G12 := Lib.hid (G11.out.below hB G11.out.lt); have X12 := Lib.hid (X11.out.below hB X11.out.lt); have P12 := Lib.hid (P11.out.below hB P11.out.lt); have Q12 := Lib.hid (Q11.out.below hB Q11.out.lt); have O12 := Lib.hid (O11.out.below hB); have W12 := Lib.hid (W11.out.on hB); obtain ⟨A12, l', i', n'⟩ := L11.out.own2 hB; have L12 := Lib.hid l'; have MK12 := Lib.hid (i' _ MK11.out); have MG12 := Lib.hid (i' _ MG11.out); have MX12 := Lib.hid (i' _ MX11.out); have MP12 := Lib.hid (i' _ MP11.out); have MQ12 := Lib.hid (i' _ MQ11.out); have MO12 := Lib.hid (fun h g e => (MO11.out h g e).imp_right (i' g)); clear hv hap e137 e138 e148 hB l' i' n'
                generalize vs 0 = z0
                generalize vs 1 = z1
                generalize vs 2 = z2
                generalize vs 3 = z3
                generalize vs 4 = z4
                generalize vs 5 = z5
                generalize vs 6 = z6
                generalize vs 7 = z7
                generalize vs 8 = z8
                generalize vs 9 = z9
                generalize vs 10 = z10
                generalize vs 11 = z11
                generalize vs 12 = z12
                generalize vs 13 = z13
                generalize vs 14 = z14
                generalize vs 15 = z15
                generalize vs 16 = z16
                generalize vs 19 = z19
                generalize vs 20 = z20
                generalize vs 21 = z21
                generalize vs 22 = z22
                generalize vs 23 = z23
                generalize vs 24 = z24
                generalize vs 25 = z25
                generalize vs 26 = z26
                generalize vs 27 = z27
                have OC := Lib.hid (show Rd w12 (.slice (some ⟨u, 0, none⟩) 4200 cp) CUT by rw [HCUT.out]; exact O12.out.take 4200 (by rw [HAEl.out]; decide))
                have MOC := Lib.hid (fun (_ : 0 < CUT.length) g (e : (Value.slice (some ⟨u, 0, none⟩) 4200 cp).ownBlock = some g) => MO12.out (by rw [HAEl.out]; decide) g e)
                go_upto_region 28 with (first
                  | ((with_reducible show wpList _ _ _ (Oper.mk (some 152) (.slice _ _ _ _ _) _ _ _ _ :: _) _ _); refine wpList_wanted rfl (.slice (some ⟨u, 0, none⟩) 4200 cp) (HCS.out _ _ _ rfl rfl) ?_)
                  | (go_at_call 23; (with_reducible refine (HLD.out w12 s d _ (.slice (some ⟨u, 0, none⟩) 4200 cp) L12.out OC.out MOC.out).mono ?_); rintro e w13 ⟨rfl, ll, kk⟩; have L13 := Lib.hid ll; have K13 := Lib.hid (K12.out.kept kk (.inr MK12.out)); have MK13 := MK12; have G13 := Lib.hid (G12.out.kept kk (.inr MG12.out)); have MG13 := MG12; have X13 := Lib.hid (X12.out.kept kk (.inr MX12.out)); have MX13 := MX12; have P13 := Lib.hid (P12.out.kept kk (.inr MP12.out)); have MP13 := MP12; have Q13 := Lib.hid (Q12.out.kept kk (.inr MQ12.out)); have MQ13 := MQ12; have O13 := Lib.hid (O12.out.kept0 kk MO12.out); have MO13 := MO12; have W13 := Lib.hid (kk.below W12.out W12.out.size); clear kk ll)
                  | ((with_reducible show wpList _ _ _ (Oper.mk (some 156) (.load _ (.tmp 10)) _ _ _ _ :: _) _ _); refine wpList_load_wanted rfl 49 (.tmp 10) rfl rX 0 rfl RC _ X13.out.range Tryz.underlying49 rfl (by rw [RC33.out]; exact infoRfQ) ?_)
                  | (go_at_call 14; (with_reducible refine (HD2.out w13 s d _ L13.out).mono ?_); rintro e w14 ⟨y, rfl, bb⟩; have K14 := Lib.hid (K13.out.below bb K13.out.lt); have G14 := Lib.hid (G13.out.below bb G13.out.lt); have X14 := Lib.hid (X13.out.below bb X13.out.lt); have P14 := Lib.hid (P13.out.below bb P13.out.lt); have Q14 := Lib.hid (Q13.out.below bb Q13.out.lt); have O14 := Lib.hid (O13.out.below bb); have W14 := Lib.hid (W13.out.on bb); obtain ⟨A14, l', i', n'⟩ := L13.out.own2 bb; have L14 := Lib.hid l'; have MK14 := Lib.hid (i' _ MK13.out); have MG14 := Lib.hid (i' _ MG13.out); have MX14 := Lib.hid (i' _ MX13.out); have MP14 := Lib.hid (i' _ MP13.out); have MQ14 := Lib.hid (i' _ MQ13.out); have MO14 := Lib.hid (fun h g e => (MO13.out h g e).imp_right (i' g)); clear bb l' i' n')
                  | ((with_reducible show wpList _ _ _ (Oper.mk (some 162) (.load _ (.tmp 12)) _ _ _ _ :: _) _ _); refine wpList_load_wanted rfl 49 (.tmp 12) rfl rP 0 rfl PC _ P14.out.range Tryz.underlying49 rfl (by rw [PC33.out]; exact infoRfQ) ?_)
                  | (go_at_call 16; (with_reducible refine (HP2.out w14 s d _ L14.out).mono ?_); rintro e w15 ⟨y, rfl, bb⟩; have K15 := Lib.hid (K14.out.below bb K14.out.lt); have G15 := Lib.hid (G14.out.below bb G14.out.lt); have X15 := Lib.hid (X14.out.below bb X14.out.lt); have P15 := Lib.hid (P14.out.below bb P14.out.lt); have Q15 := Lib.hid (Q14.out.below bb Q14.out.lt); have O15 := Lib.hid (O14.out.below bb); have W15 := Lib.hid (W14.out.on bb); obtain ⟨A15, l', i', n'⟩ := L14.out.own2 bb; have L15 := Lib.hid l'; have MK15 := Lib.hid (i' _ MK14.out); have MG15 := Lib.hid (i' _ MG14.out); have MX15 := Lib.hid (i' _ MX14.out); have MP15 := Lib.hid (i' _ MP14.out); have MQ15 := Lib.hid (i' _ MQ14.out); have MO15 := Lib.hid (fun h g e => (MO14.out h g e).imp_right (i' g)); clear bb l' i' n'))
                have RDP4096 := Lib.hid (fun w' (hB : Below w15.heap.size w15 w') => (show Rd w' (.slice (some ⟨u, 4096, none⟩) 512 (cp - 4096)) P0 by rw [HP0.out]; have q := ((O15.out.below hB).piece 4096 512 (cp - 4096) (by rw [HAEl.out]; decide) (by have := HCP.out; omega)); rw [addr_at0] at q; exact q))
                refine wp_region_g (by kernel_rfl) 20 (by decide) (by kernel_rfl) (by kernel_rfl) (by kernel_rfl) w15.heap.size (Nat.le_refl _) [.val (.int .i64 40), .val (.bool true), .val (.bool true), .val (.int .i64 40), .val (.bool true), .val (.bool true), .val (.bool true), .val (.int .i64 0), .val (.bool false), .val (.bool false), .val (.agg KC.toArray), .val (.slice (some ⟨u, 0, none⟩) 16384 cp), .val (.slice (some ⟨u, 4096, none⟩) 512 (cp - 4096)), .val (.agg RC.toArray), .val (.bool true), .val (.bool true), .val (.bool true), .val (.bool true), .val (.bool true), .val (.bool true)] (fun _ => 20) ?_ ?_
                . refine ⟨?_, ?_, ?_, ?_, ?_, ?_, ?_, ?_, ?_, ?_, ?_, ?_, ?_, ?_, ?_, ?_, ?_, ?_, ?_, ?_, trivial⟩
                  . intro a w' hF hB hd
                    have e26 : a.eval (.tmp 26) = .int .i64 40 := hF 26 (by decide +kernel)
                    exact doesG_val rfl (ex_move rfl e26) rfl rfl
                  . intro a w' hF hB hd
                    have e166 : a.eval (.tmp 166) = .int .i64 40 := hd 0 (by decide +kernel) (.inr (by decide))
                    exact doesG_val rfl (ex_binOp rfl e166 rfl (by go_simp) (by go_simp)) rfl rfl
                  . intro a w' hF hB hd
                    have e167 : a.eval (.tmp 167) = .bool true := hd 1 (by decide +kernel) (.inr (by decide))
                    exact doesG_val rfl (ex_move rfl e167) rfl rfl
                  . intro a w' hF hB hd
                    have e168 : a.eval (.tmp 168) = .bool true := hd 2 (by decide +kernel) (.inr (by decide))
                    have e28 : a.eval (.tmp 28) = .int .i64 40 := hF 28 (by decide +kernel)
                    exact doesG_val (wanted_of rfl (yielded_of rfl e168)) (ex_move rfl e28) rfl rfl
                  . intro a w' hF hB hd
                    have e168 : a.eval (.tmp 168) = .bool true := hd 2 (by decide +kernel) (.inr (by decide))
                    have e169 : a.eval (.tmp 169) = .int .i64 40 := hd 3 (by decide +kernel) (.inr (by decide))
                    exact doesG_val (wanted_of rfl (yielded_of rfl e168)) (ex_binOp rfl e169 rfl (by go_simp) (by go_simp)) rfl rfl
                  . intro a w' hF hB hd
                    have e168 : a.eval (.tmp 168) = .bool true := hd 2 (by decide +kernel) (.inr (by decide))
                    have e170 : a.eval (.tmp 170) = .bool true := hd 4 (by decide +kernel) (.inr (by decide))
                    exact doesG_val rfl (ex_pick rfl e168 (by simp [e170])) rfl rfl
                  . intro a w' hF hB hd
                    have e171 : a.eval (.tmp 171) = .bool true := hd 5 (by decide +kernel) (.inr (by decide))
                    exact doesG_val rfl (ex_move rfl e171) rfl rfl
                  . intro a w' hF hB hd
                    have e172 : a.eval (.tmp 172) = .bool true := hd 6 (by decide +kernel) (.inr (by decide))
                    have e20 : a.eval (.tmp 20) = .int .i64 0 := hF 20 (by decide +kernel)
                    exact doesG_val (wanted_of rfl (yielded_of rfl e172)) (ex_move rfl e20) rfl rfl
                  . intro a w' hF hB hd
                    have e172 : a.eval (.tmp 172) = .bool true := hd 6 (by decide +kernel) (.inr (by decide))
                    have e173 : a.eval (.tmp 173) = .int .i64 0 := hd 7 (by decide +kernel) (.inr (by decide))
                    exact doesG_val (wanted_of rfl (yielded_of rfl e172)) (ex_binOp rfl e173 rfl (by go_simp) (by go_simp)) rfl rfl
                  . intro a w' hF hB hd
                    have e172 : a.eval (.tmp 172) = .bool true := hd 6 (by decide +kernel) (.inr (by decide))
                    have e174 : a.eval (.tmp 174) = .bool false := hd 8 (by decide +kernel) (.inr (by decide))
                    exact doesG_val (wanted_of rfl (yielded_of rfl e172)) (ex_move rfl e174) rfl rfl
                  . intro a w' hF hB hd
                    have e175 : a.eval (.tmp 175) = .bool false := hd 9 (by decide +kernel) (.inr (by decide))
                    have e3 : a.eval (.tmp 3) = .pointer (some ⟨w.heap.size, 0, none⟩) := hF 3 (by decide +kernel)
                    exact doesG_val (wanted_of rfl (yielded_of rfl e175)) (ex_load_part 23 (.tmp 3) rfl w.heap.size 0 e3 KC _ ((K15.out.below hB K15.out.lt).range) Tryz.underlying23 rfl (by rw [KC32.out]; exact infoKeyP)) rfl rfl
                  . intro a w' hF hB hd
                    have e175 : a.eval (.tmp 175) = .bool false := hd 9 (by decide +kernel) (.inr (by decide))
                    have e16 : a.eval (.tmp 16) = .slice (some ⟨u, 0, none⟩) 16384 cp := hF 16 (by decide +kernel)
                    exact doesG_val (wanted_of rfl (yielded_of rfl e175)) (ex_move rfl e16) rfl rfl
                  . intro a w' hF hB hd
                    have e175 : a.eval (.tmp 175) = .bool false := hd 9 (by decide +kernel) (.inr (by decide))
                    have e177 : a.eval (.tmp 177) = .slice (some ⟨u, 0, none⟩) 16384 cp := hd 11 (by decide +kernel) (.inr (by decide))
                    exact doesG_val (wanted_of rfl (yielded_of rfl e175)) (ex_slice_lh (k := 4096) (h := 4608) (cap := cp) (n := 16384) (ad := ⟨u, 0, none⟩) rfl e177 rfl rfl (by decide) (by have := HCP.out; omega) (by have := HCP.out; omega)) rfl rfl
                  . intro a w' hF hB hd
                    have e175 : a.eval (.tmp 175) = .bool false := hd 9 (by decide +kernel) (.inr (by decide))
                    have e10 : a.eval (.tmp 10) = .pointer (some ⟨rX, 0, none⟩) := hF 10 (by decide +kernel)
                    exact doesG_val (wanted_of rfl (yielded_of rfl e175)) (ex_load_part 49 (.tmp 10) rfl rX 0 e10 RC _ ((X15.out.below hB X15.out.lt).range) Tryz.underlying49 rfl (by rw [RC33.out]; exact infoRfQ)) rfl rfl
                  . intro a w' hF hB hd
                    have e175 : a.eval (.tmp 175) = .bool false := hd 9 (by decide +kernel) (.inr (by decide))
                    have e176 : a.eval (.tmp 176) = .agg KC.toArray := hd 10 (by decide +kernel) (.inr (by decide))
                    have e178 : a.eval (.tmp 178) = .slice (some ⟨u, 4096, none⟩) 512 (cp - 4096) := hd 12 (by decide +kernel) (.inr (by decide))
                    have e179 : a.eval (.tmp 179) = .agg RC.toArray := hd 13 (by decide +kernel) (.inr (by decide))
                    exact doesG_call (wanted_of rfl (yielded_of rfl e175)) (ex_call (vs := #[.agg KC.toArray, .slice (some ⟨u, 4096, none⟩) 512 (cp - 4096), .agg RC.toArray]) rfl (by simp only [List.map_toArray, List.map_cons, List.map_nil, e176, e178, e179]) (by go_simp)) rfl ((HSM.out w' _ (W15.out.on hB) (RDP4096.out w' hB)).mono fun e w3 hh => ⟨_, hh.1, rfl, hh.2⟩)
                  . intro a w' hF hB hd
                    have e172 : a.eval (.tmp 172) = .bool true := hd 6 (by decide +kernel) (.inr (by decide))
                    have e175 : a.eval (.tmp 175) = .bool false := hd 9 (by decide +kernel) (.inr (by decide))
                    have e180 : a.eval (.tmp 180) = .bool true := hd 14 (by decide +kernel) (.inr (by decide))
                    exact doesG_val (wanted_of rfl (yielded_of rfl e172)) (ex_pick rfl e175 (by simp [e180])) rfl rfl
                  . intro a w' hF hB hd
                    have e172 : a.eval (.tmp 172) = .bool true := hd 6 (by decide +kernel) (.inr (by decide))
                    have e181 : a.eval (.tmp 181) = .bool true := hd 15 (by decide +kernel) (.inr (by decide))
                    exact doesG_val rfl (ex_pick rfl e172 (by simp [e181])) rfl rfl
                  . intro a w' hF hB hd
                    have e182 : a.eval (.tmp 182) = .bool true := hd 16 (by decide +kernel) (.inr (by decide))
                    exact doesG_val rfl (ex_move rfl e182) rfl rfl
                  . intro a w' hF hB hd
                    have e183 : a.eval (.tmp 183) = .bool true := hd 17 (by decide +kernel) (.inr (by decide))
                    exact doesG_call (wanted_of rfl (yielded_of rfl e183)) (ex_call (vs := #[]) rfl (by simp only [List.map_toArray, List.map_nil]) (by go_simp)) rfl ((HAW.out w' (W15.out.on hB)).mono fun e w3 hh => ⟨_, hh.1, rfl, hh.2⟩)
                  . intro a w' hF hB hd
                    have e183 : a.eval (.tmp 183) = .bool true := hd 17 (by decide +kernel) (.inr (by decide))
                    have e184 : a.eval (.tmp 184) = .bool true := hd 18 (by decide +kernel) (.inr (by decide))
                    exact doesG_val rfl (ex_pick rfl e183 (by simp [e184])) rfl rfl
                . intro vs w16 hB hv hap
                  have e185 : vs 19 = .bool true := hv 19 (by decide) (by decide)
                  simp only [List.take_succ_cons, List.take_zero, List.drop_succ_cons, List.drop_zero, putOps, Act.put, List.setIfInBounds_toArray, List.set_cons_zero, List.set_cons_succ, e185]
                  have W99 := Lib.hid (W15.out.on hB)
                  clear hv hap e185 hB
                  generalize vs 0 = y0
                  generalize vs 1 = y1
                  generalize vs 2 = y2
                  generalize vs 3 = y3
                  generalize vs 4 = y4
                  generalize vs 5 = y5
                  generalize vs 6 = y6
                  generalize vs 7 = y7
                  generalize vs 8 = y8
                  generalize vs 9 = y9
                  generalize vs 10 = y10
                  generalize vs 11 = y11
                  generalize vs 12 = y12
                  generalize vs 13 = y13
                  generalize vs 14 = y14
                  generalize vs 15 = y15
                  generalize vs 16 = y16
                  generalize vs 17 = y17
                  generalize vs 18 = y18
                  go_wp2_with fail
                  go_ret
                  exact ⟨rfl, W99.out⟩
            . have NEQ3 := Lib.hid (HE3.out t3)
              refine wp_region_g (by kernel_rfl) 29 (by decide) (by kernel_rfl) (by kernel_rfl) (by kernel_rfl) w11.heap.size (Nat.le_refl _) [.val (.int .i64 0), .val (.bool true), .val (.bool true), .val (.int .i64 0), .val (.bool false), .val (.bool false), .val (.bool false), .val (.int .i64 40), .val (.bool false), .val (.bool false), .val (undef), .val (undef), .val (undef), .val (undef), .val (undef), .val (undef), .val (.bool false), .val (.bool false), .val (.bool false), .val (.int .i64 0), .val (.bool true), .val (.bool true), .val (.slice (some ⟨u, 0, none⟩) 16384 cp), .val (.slice (some ⟨u, 5120, none⟩) 512 (cp - 5120)), .val (.agg Q3.toArray), .val (.pointer (some ⟨rQ, 1, none⟩)), .val (.agg SM3.toArray), .val (.bool false), .val (.bool false)] (fun _ => 29) ?_ ?_
              . refine ⟨?_, ?_, ?_, ?_, ?_, ?_, ?_, ?_, ?_, ?_, ?_, ?_, ?_, ?_, ?_, ?_, ?_, ?_, ?_, ?_, ?_, ?_, ?_, ?_, ?_, ?_, ?_, ?_, ?_, trivial⟩
                . intro a w' hF hB hd
                  have e20 : a.eval (.tmp 20) = .int .i64 0 := hF 20 (by decide +kernel)
                  exact doesG_val rfl (ex_move rfl e20) rfl rfl
                . intro a w' hF hB hd
                  have e120 : a.eval (.tmp 120) = .int .i64 0 := hd 0 (by decide +kernel) (.inr (by decide))
                  exact doesG_val rfl (ex_binOp rfl e120 rfl (by go_simp) (by go_simp)) rfl rfl
                . intro a w' hF hB hd
                  have e121 : a.eval (.tmp 121) = .bool true := hd 1 (by decide +kernel) (.inr (by decide))
                  exact doesG_val rfl (ex_move rfl e121) rfl rfl
                . intro a w' hF hB hd
                  have e122 : a.eval (.tmp 122) = .bool true := hd 2 (by decide +kernel) (.inr (by decide))
                  have e20 : a.eval (.tmp 20) = .int .i64 0 := hF 20 (by decide +kernel)
                  exact doesG_val (wanted_of rfl (yielded_of rfl e122)) (ex_move rfl e20) rfl rfl
                . intro a w' hF hB hd
                  have e122 : a.eval (.tmp 122) = .bool true := hd 2 (by decide +kernel) (.inr (by decide))
                  have e123 : a.eval (.tmp 123) = .int .i64 0 := hd 3 (by decide +kernel) (.inr (by decide))
                  exact doesG_val (wanted_of rfl (yielded_of rfl e122)) (ex_binOp rfl e123 rfl (by go_simp) (by go_simp)) rfl rfl
                . intro a w' hF hB hd
                  have e122 : a.eval (.tmp 122) = .bool true := hd 2 (by decide +kernel) (.inr (by decide))
                  have e124 : a.eval (.tmp 124) = .bool false := hd 4 (by decide +kernel) (.inr (by decide))
                  exact doesG_val rfl (ex_pick rfl e122 (by simp [e124])) rfl rfl
                . intro a w' hF hB hd
                  have e125 : a.eval (.tmp 125) = .bool false := hd 5 (by decide +kernel) (.inr (by decide))
                  exact doesG_val rfl (ex_move rfl e125) rfl rfl
                . intro a w' hF hB hd
                  have e126 : a.eval (.tmp 126) = .bool false := hd 6 (by decide +kernel) (.inr (by decide))
                  have e22 : a.eval (.tmp 22) = .int .i64 40 := hF 22 (by decide +kernel)
                  exact doesG_val (wanted_of rfl (yielded_of rfl e126)) (ex_move rfl e22) rfl rfl
                . intro a w' hF hB hd
                  have e126 : a.eval (.tmp 126) = .bool false := hd 6 (by decide +kernel) (.inr (by decide))
                  have e127 : a.eval (.tmp 127) = .int .i64 40 := hd 7 (by decide +kernel) (.inr (by decide))
                  exact doesG_val (wanted_of rfl (yielded_of rfl e126)) (ex_binOp rfl e127 rfl (by go_simp) (by go_simp)) rfl rfl
                . intro a w' hF hB hd
                  have e126 : a.eval (.tmp 126) = .bool false := hd 6 (by decide +kernel) (.inr (by decide))
                  have e128 : a.eval (.tmp 128) = .bool false := hd 8 (by decide +kernel) (.inr (by decide))
                  exact doesG_val (wanted_of rfl (yielded_of rfl e126)) (ex_move rfl e128) rfl rfl
                . intro a w' hF hB hd
                  have e129 : a.eval (.tmp 129) = .bool false := hd 9 (by decide +kernel) (.inr (by decide))
                  exact doesG_skip (unwanted_of rfl (yielded_of rfl e129) (by decide)) rfl
                . intro a w' hF hB hd
                  have e129 : a.eval (.tmp 129) = .bool false := hd 9 (by decide +kernel) (.inr (by decide))
                  exact doesG_skip (unwanted_of rfl (yielded_of rfl e129) (by decide)) rfl
                . intro a w' hF hB hd
                  have e129 : a.eval (.tmp 129) = .bool false := hd 9 (by decide +kernel) (.inr (by decide))
                  exact doesG_skip (unwanted_of rfl (yielded_of rfl e129) (by decide)) rfl
                . intro a w' hF hB hd
                  have e129 : a.eval (.tmp 129) = .bool false := hd 9 (by decide +kernel) (.inr (by decide))
                  exact doesG_skip (unwanted_of rfl (yielded_of rfl e129) (by decide)) rfl
                . intro a w' hF hB hd
                  have e129 : a.eval (.tmp 129) = .bool false := hd 9 (by decide +kernel) (.inr (by decide))
                  exact doesG_skip (unwanted_of rfl (yielded_of rfl e129) (by decide)) rfl
                . intro a w' hF hB hd
                  have e129 : a.eval (.tmp 129) = .bool false := hd 9 (by decide +kernel) (.inr (by decide))
                  exact doesG_skip (unwanted_of rfl (yielded_of rfl e129) (by decide)) rfl
                . intro a w' hF hB hd
                  have e126 : a.eval (.tmp 126) = .bool false := hd 6 (by decide +kernel) (.inr (by decide))
                  have e129 : a.eval (.tmp 129) = .bool false := hd 9 (by decide +kernel) (.inr (by decide))
                  exact doesG_val (wanted_of rfl (yielded_of rfl e126)) (ex_pick rfl e129 (rfl)) rfl rfl
                . intro a w' hF hB hd
                  have e126 : a.eval (.tmp 126) = .bool false := hd 6 (by decide +kernel) (.inr (by decide))
                  have e136 : a.eval (.tmp 136) = .bool false := hd 16 (by decide +kernel) (.inr (by decide))
                  exact doesG_val rfl (ex_pick rfl e126 (by simp [e136])) rfl rfl
                . intro a w' hF hB hd
                  have e137 : a.eval (.tmp 137) = .bool false := hd 17 (by decide +kernel) (.inr (by decide))
                  exact doesG_val rfl (ex_move rfl e137) rfl rfl
                . intro a w' hF hB hd
                  have e138 : a.eval (.tmp 138) = .bool false := hd 18 (by decide +kernel) (.inr (by decide))
                  have e24 : a.eval (.tmp 24) = .int .i64 0 := hF 24 (by decide +kernel)
                  exact doesG_val (wanted_of rfl (yielded_of rfl e138)) (ex_move rfl e24) rfl rfl
                . intro a w' hF hB hd
                  have e138 : a.eval (.tmp 138) = .bool false := hd 18 (by decide +kernel) (.inr (by decide))
                  have e139 : a.eval (.tmp 139) = .int .i64 0 := hd 19 (by decide +kernel) (.inr (by decide))
                  exact doesG_val (wanted_of rfl (yielded_of rfl e138)) (ex_binOp rfl e139 rfl (by go_simp) (by go_simp)) rfl rfl
                . intro a w' hF hB hd
                  have e138 : a.eval (.tmp 138) = .bool false := hd 18 (by decide +kernel) (.inr (by decide))
                  have e140 : a.eval (.tmp 140) = .bool true := hd 20 (by decide +kernel) (.inr (by decide))
                  exact doesG_val (wanted_of rfl (yielded_of rfl e138)) (ex_move rfl e140) rfl rfl
                . intro a w' hF hB hd
                  have e141 : a.eval (.tmp 141) = .bool true := hd 21 (by decide +kernel) (.inr (by decide))
                  have e16 : a.eval (.tmp 16) = .slice (some ⟨u, 0, none⟩) 16384 cp := hF 16 (by decide +kernel)
                  exact doesG_val (wanted_of rfl (yielded_of rfl e141)) (ex_move rfl e16) rfl rfl
                . intro a w' hF hB hd
                  have e141 : a.eval (.tmp 141) = .bool true := hd 21 (by decide +kernel) (.inr (by decide))
                  have e142 : a.eval (.tmp 142) = .slice (some ⟨u, 0, none⟩) 16384 cp := hd 22 (by decide +kernel) (.inr (by decide))
                  exact doesG_val (wanted_of rfl (yielded_of rfl e141)) (ex_slice_lh (k := 5120) (h := 5632) (cap := cp) (n := 16384) (ad := ⟨u, 0, none⟩) rfl e142 rfl rfl (by decide) (by have := HCP.out; omega) (by have := HCP.out; omega)) rfl rfl
                . intro a w' hF hB hd
                  have e141 : a.eval (.tmp 141) = .bool true := hd 21 (by decide +kernel) (.inr (by decide))
                  have e143 : a.eval (.tmp 143) = .slice (some ⟨u, 5120, none⟩) 512 (cp - 5120) := hd 23 (by decide +kernel) (.inr (by decide))
                  exact doesG_call (wanted_of rfl (yielded_of rfl e141)) (ex_call (vs := #[.slice (some ⟨u, 5120, none⟩) 512 (cp - 5120)]) rfl (by simp only [List.map_toArray, List.map_cons, List.map_nil, e143]) (by go_simp)) rfl ((HNS.out w' _ (W11.out.on hB) (RDP5120.out w' hB)).mono fun e w3 hh => ⟨_, hh.1, rfl, hh.2⟩)
                . intro a w' hF hB hd
                  have e141 : a.eval (.tmp 141) = .bool true := hd 21 (by decide +kernel) (.inr (by decide))
                  have e14 : a.eval (.tmp 14) = .pointer (some ⟨rQ, 0, none⟩) := hF 14 (by decide +kernel)
                  exact doesG_val (wanted_of rfl (yielded_of rfl e141)) (ex_fieldAddr rfl e14 (by go_simp)) rfl rfl
                . intro a w' hF hB hd
                  have e141 : a.eval (.tmp 141) = .bool true := hd 21 (by decide +kernel) (.inr (by decide))
                  have e145 : a.eval (.tmp 145) = .pointer (some ⟨rQ, 1, none⟩) := hd 25 (by decide +kernel) (.inr (by decide))
                  exact doesG_val (wanted_of rfl (yielded_of rfl e141)) (ex_load_part 47 (.tmp 145) rfl rQ 1 e145 SM3 _ (SRQ.out w' hB) Tryz.underlying47 rfl (by rw [SM332.out]; exact infoS)) rfl rfl
                . intro a w' hF hB hd
                  have e141 : a.eval (.tmp 141) = .bool true := hd 21 (by decide +kernel) (.inr (by decide))
                  have e144 : a.eval (.tmp 144) = .agg Q3.toArray := hd 24 (by decide +kernel) (.inr (by decide))
                  have e146 : a.eval (.tmp 146) = .agg SM3.toArray := hd 26 (by decide +kernel) (.inr (by decide))
                  exact doesG_val (wanted_of rfl (yielded_of rfl e141)) (ex_binOp rfl e144 e146 (run_eqGuard_agg (P := Tryz.prog) (w := w') .neq 47 _ _ _ _ eqTypeS) (NEQ3.out w')) rfl rfl
                . intro a w' hF hB hd
                  have e138 : a.eval (.tmp 138) = .bool false := hd 18 (by decide +kernel) (.inr (by decide))
                  have e141 : a.eval (.tmp 141) = .bool true := hd 21 (by decide +kernel) (.inr (by decide))
                  have e147 : a.eval (.tmp 147) = .bool false := hd 27 (by decide +kernel) (.inr (by decide))
                  exact doesG_val (wanted_of rfl (yielded_of rfl e138)) (ex_pick rfl e141 (by simp [e147])) rfl rfl
              . intro vs w12 hB hv hap
                have e137 : vs 17 = .bool false := hv 17 (by decide) (by decide)
                have e138 : vs 18 = .bool false := hv 18 (by decide) (by decide)
                have e148 : vs 28 = .bool false := hv 28 (by decide) (by decide)
                simp only [List.take_succ_cons, List.take_zero, List.drop_succ_cons, List.drop_zero, putOps, Act.put, List.setIfInBounds_toArray, List.set_cons_zero, List.set_cons_succ, e137, e138, e148]
                have K12 := Lib.hid (K11.out.below hB K11.out.lt); have G12 := Lib.hid (G11.out.below hB G11.out.lt); have X12 := Lib.hid (X11.out.below hB X11.out.lt); have P12 := Lib.hid (P11.out.below hB P11.out.lt); have Q12 := Lib.hid (Q11.out.below hB Q11.out.lt); have O12 := Lib.hid (O11.out.below hB); have W12 := Lib.hid (W11.out.on hB); obtain ⟨A12, l', i', n'⟩ := L11.out.own2 hB; have L12 := Lib.hid l'; have MK12 := Lib.hid (i' _ MK11.out); have MG12 := Lib.hid (i' _ MG11.out); have MX12 := Lib.hid (i' _ MX11.out); have MP12 := Lib.hid (i' _ MP11.out); have MQ12 := Lib.hid (i' _ MQ11.out); have MO12 := Lib.hid (fun h g e => (MO11.out h g e).imp_right (i' g)); clear hv hap e137 e138 e148 hB l' i' n'
                generalize vs 0 = z0
                generalize vs 1 = z1
                generalize vs 2 = z2
                generalize vs 3 = z3
                generalize vs 4 = z4
                generalize vs 5 = z5
                generalize vs 6 = z6
                generalize vs 7 = z7
                generalize vs 8 = z8
                generalize vs 9 = z9
                generalize vs 10 = z10
                generalize vs 11 = z11
                generalize vs 12 = z12
                generalize vs 13 = z13
                generalize vs 14 = z14
                generalize vs 15 = z15
                generalize vs 16 = z16
                generalize vs 19 = z19
                generalize vs 20 = z20
                generalize vs 21 = z21
                generalize vs 22 = z22
                generalize vs 23 = z23
                generalize vs 24 = z24
                generalize vs 25 = z25
                generalize vs 26 = z26
                generalize vs 27 = z27
                have OC := Lib.hid (show Rd w12 (.slice (some ⟨u, 0, none⟩) 4200 cp) CUT by rw [HCUT.out]; exact O12.out.take 4200 (by rw [HAEl.out]; decide))
                have MOC := Lib.hid (fun (_ : 0 < CUT.length) g (e : (Value.slice (some ⟨u, 0, none⟩) 4200 cp).ownBlock = some g) => MO12.out (by rw [HAEl.out]; decide) g e)
                go_upto_region 28 with (first
                  | ((with_reducible show wpList _ _ _ (Oper.mk (some 152) (.slice _ _ _ _ _) _ _ _ _ :: _) _ _); refine wpList_wanted rfl (.slice (some ⟨u, 0, none⟩) 4200 cp) (HCS.out _ _ _ rfl rfl) ?_)
                  | (go_at_call 23; (with_reducible refine (HLD.out w12 s d _ (.slice (some ⟨u, 0, none⟩) 4200 cp) L12.out OC.out MOC.out).mono ?_); rintro e w13 ⟨rfl, ll, kk⟩; have L13 := Lib.hid ll; have K13 := Lib.hid (K12.out.kept kk (.inr MK12.out)); have MK13 := MK12; have G13 := Lib.hid (G12.out.kept kk (.inr MG12.out)); have MG13 := MG12; have X13 := Lib.hid (X12.out.kept kk (.inr MX12.out)); have MX13 := MX12; have P13 := Lib.hid (P12.out.kept kk (.inr MP12.out)); have MP13 := MP12; have Q13 := Lib.hid (Q12.out.kept kk (.inr MQ12.out)); have MQ13 := MQ12; have O13 := Lib.hid (O12.out.kept0 kk MO12.out); have MO13 := MO12; have W13 := Lib.hid (kk.below W12.out W12.out.size); clear kk ll)
                  | ((with_reducible show wpList _ _ _ (Oper.mk (some 156) (.load _ (.tmp 10)) _ _ _ _ :: _) _ _); refine wpList_load_wanted rfl 49 (.tmp 10) rfl rX 0 rfl RC _ X13.out.range Tryz.underlying49 rfl (by rw [RC33.out]; exact infoRfQ) ?_)
                  | (go_at_call 14; (with_reducible refine (HD2.out w13 s d _ L13.out).mono ?_); rintro e w14 ⟨y, rfl, bb⟩; have K14 := Lib.hid (K13.out.below bb K13.out.lt); have G14 := Lib.hid (G13.out.below bb G13.out.lt); have X14 := Lib.hid (X13.out.below bb X13.out.lt); have P14 := Lib.hid (P13.out.below bb P13.out.lt); have Q14 := Lib.hid (Q13.out.below bb Q13.out.lt); have O14 := Lib.hid (O13.out.below bb); have W14 := Lib.hid (W13.out.on bb); obtain ⟨A14, l', i', n'⟩ := L13.out.own2 bb; have L14 := Lib.hid l'; have MK14 := Lib.hid (i' _ MK13.out); have MG14 := Lib.hid (i' _ MG13.out); have MX14 := Lib.hid (i' _ MX13.out); have MP14 := Lib.hid (i' _ MP13.out); have MQ14 := Lib.hid (i' _ MQ13.out); have MO14 := Lib.hid (fun h g e => (MO13.out h g e).imp_right (i' g)); clear bb l' i' n')
                  | ((with_reducible show wpList _ _ _ (Oper.mk (some 162) (.load _ (.tmp 12)) _ _ _ _ :: _) _ _); refine wpList_load_wanted rfl 49 (.tmp 12) rfl rP 0 rfl PC _ P14.out.range Tryz.underlying49 rfl (by rw [PC33.out]; exact infoRfQ) ?_)
                  | (go_at_call 16; (with_reducible refine (HP2.out w14 s d _ L14.out).mono ?_); rintro e w15 ⟨y, rfl, bb⟩; have K15 := Lib.hid (K14.out.below bb K14.out.lt); have G15 := Lib.hid (G14.out.below bb G14.out.lt); have X15 := Lib.hid (X14.out.below bb X14.out.lt); have P15 := Lib.hid (P14.out.below bb P14.out.lt); have Q15 := Lib.hid (Q14.out.below bb Q14.out.lt); have O15 := Lib.hid (O14.out.below bb); have W15 := Lib.hid (W14.out.on bb); obtain ⟨A15, l', i', n'⟩ := L14.out.own2 bb; have L15 := Lib.hid l'; have MK15 := Lib.hid (i' _ MK14.out); have MG15 := Lib.hid (i' _ MG14.out); have MX15 := Lib.hid (i' _ MX14.out); have MP15 := Lib.hid (i' _ MP14.out); have MQ15 := Lib.hid (i' _ MQ14.out); have MO15 := Lib.hid (fun h g e => (MO14.out h g e).imp_right (i' g)); clear bb l' i' n'))
                have RDP4096 := Lib.hid (fun w' (hB : Below w15.heap.size w15 w') => (show Rd w' (.slice (some ⟨u, 4096, none⟩) 512 (cp - 4096)) P0 by rw [HP0.out]; have q := ((O15.out.below hB).piece 4096 512 (cp - 4096) (by rw [HAEl.out]; decide) (by have := HCP.out; omega)); rw [addr_at0] at q; exact q))
                refine wp_region_g (by kernel_rfl) 20 (by decide) (by kernel_rfl) (by kernel_rfl) (by kernel_rfl) w15.heap.size (Nat.le_refl _) [.val (.int .i64 40), .val (.bool true), .val (.bool true), .val (.int .i64 40), .val (.bool true), .val (.bool true), .val (.bool true), .val (.int .i64 0), .val (.bool false), .val (.bool false), .val (.agg KC.toArray), .val (.slice (some ⟨u, 0, none⟩) 16384 cp), .val (.slice (some ⟨u, 4096, none⟩) 512 (cp - 4096)), .val (.agg RC.toArray), .val (.bool true), .val (.bool true), .val (.bool true), .val (.bool true), .val (.bool true), .val (.bool true)] (fun _ => 20) ?_ ?_
                . refine ⟨?_, ?_, ?_, ?_, ?_, ?_, ?_, ?_, ?_, ?_, ?_, ?_, ?_, ?_, ?_, ?_, ?_, ?_, ?_, ?_, trivial⟩
                  . intro a w' hF hB hd
                    have e26 : a.eval (.tmp 26) = .int .i64 40 := hF 26 (by decide +kernel)
                    exact doesG_val rfl (ex_move rfl e26) rfl rfl
                  . intro a w' hF hB hd
                    have e166 : a.eval (.tmp 166) = .int .i64 40 := hd 0 (by decide +kernel) (.inr (by decide))
                    exact doesG_val rfl (ex_binOp rfl e166 rfl (by go_simp) (by go_simp)) rfl rfl
                  . intro a w' hF hB hd
                    have e167 : a.eval (.tmp 167) = .bool true := hd 1 (by decide +kernel) (.inr (by decide))
                    exact doesG_val rfl (ex_move rfl e167) rfl rfl
                  . intro a w' hF hB hd
                    have e168 : a.eval (.tmp 168) = .bool true := hd 2 (by decide +kernel) (.inr (by decide))
                    have e28 : a.eval (.tmp 28) = .int .i64 40 := hF 28 (by decide +kernel)
                    exact doesG_val (wanted_of rfl (yielded_of rfl e168)) (ex_move rfl e28) rfl rfl
                  . intro a w' hF hB hd
                    have e168 : a.eval (.tmp 168) = .bool true := hd 2 (by decide +kernel) (.inr (by decide))
                    have e169 : a.eval (.tmp 169) = .int .i64 40 := hd 3 (by decide +kernel) (.inr (by decide))
                    exact doesG_val (wanted_of rfl (yielded_of rfl e168)) (ex_binOp rfl e169 rfl (by go_simp) (by go_simp)) rfl rfl
                  . intro a w' hF hB hd
                    have e168 : a.eval (.tmp 168) = .bool true := hd 2 (by decide +kernel) (.inr (by decide))
                    have e170 : a.eval (.tmp 170) = .bool true := hd 4 (by decide +kernel) (.inr (by decide))
                    exact doesG_val rfl (ex_pick rfl e168 (by simp [e170])) rfl rfl
                  . intro a w' hF hB hd
                    have e171 : a.eval (.tmp 171) = .bool true := hd 5 (by decide +kernel) (.inr (by decide))
                    exact doesG_val rfl (ex_move rfl e171) rfl rfl
                  . intro a w' hF hB hd
                    have e172 : a.eval (.tmp 172) = .bool true := hd 6 (by decide +kernel) (.inr (by decide))
                    have e20 : a.eval (.tmp 20) = .int .i64 0 := hF 20 (by decide +kernel)
                    exact doesG_val (wanted_of rfl (yielded_of rfl e172)) (ex_move rfl e20) rfl rfl
                  . intro a w' hF hB hd
                    have e172 : a.eval (.tmp 172) = .bool true := hd 6 (by decide +kernel) (.inr (by decide))
                    have e173 : a.eval (.tmp 173) = .int .i64 0 := hd 7 (by decide +kernel) (.inr (by decide))
                    exact doesG_val (wanted_of rfl (yielded_of rfl e172)) (ex_binOp rfl e173 rfl (by go_simp) (by go_simp)) rfl rfl
                  . intro a w' hF hB hd
                    have e172 : a.eval (.tmp 172) = .bool true := hd 6 (by decide +kernel) (.inr (by decide))
                    have e174 : a.eval (.tmp 174) = .bool false := hd 8 (by decide +kernel) (.inr (by decide))
                    exact doesG_val (wanted_of rfl (yielded_of rfl e172)) (ex_move rfl e174) rfl rfl
                  . intro a w' hF hB hd
                    have e175 : a.eval (.tmp 175) = .bool false := hd 9 (by decide +kernel) (.inr (by decide))
                    have e3 : a.eval (.tmp 3) = .pointer (some ⟨w.heap.size, 0, none⟩) := hF 3 (by decide +kernel)
                    exact doesG_val (wanted_of rfl (yielded_of rfl e175)) (ex_load_part 23 (.tmp 3) rfl w.heap.size 0 e3 KC _ ((K15.out.below hB K15.out.lt).range) Tryz.underlying23 rfl (by rw [KC32.out]; exact infoKeyP)) rfl rfl
                  . intro a w' hF hB hd
                    have e175 : a.eval (.tmp 175) = .bool false := hd 9 (by decide +kernel) (.inr (by decide))
                    have e16 : a.eval (.tmp 16) = .slice (some ⟨u, 0, none⟩) 16384 cp := hF 16 (by decide +kernel)
                    exact doesG_val (wanted_of rfl (yielded_of rfl e175)) (ex_move rfl e16) rfl rfl
                  . intro a w' hF hB hd
                    have e175 : a.eval (.tmp 175) = .bool false := hd 9 (by decide +kernel) (.inr (by decide))
                    have e177 : a.eval (.tmp 177) = .slice (some ⟨u, 0, none⟩) 16384 cp := hd 11 (by decide +kernel) (.inr (by decide))
                    exact doesG_val (wanted_of rfl (yielded_of rfl e175)) (ex_slice_lh (k := 4096) (h := 4608) (cap := cp) (n := 16384) (ad := ⟨u, 0, none⟩) rfl e177 rfl rfl (by decide) (by have := HCP.out; omega) (by have := HCP.out; omega)) rfl rfl
                  . intro a w' hF hB hd
                    have e175 : a.eval (.tmp 175) = .bool false := hd 9 (by decide +kernel) (.inr (by decide))
                    have e10 : a.eval (.tmp 10) = .pointer (some ⟨rX, 0, none⟩) := hF 10 (by decide +kernel)
                    exact doesG_val (wanted_of rfl (yielded_of rfl e175)) (ex_load_part 49 (.tmp 10) rfl rX 0 e10 RC _ ((X15.out.below hB X15.out.lt).range) Tryz.underlying49 rfl (by rw [RC33.out]; exact infoRfQ)) rfl rfl
                  . intro a w' hF hB hd
                    have e175 : a.eval (.tmp 175) = .bool false := hd 9 (by decide +kernel) (.inr (by decide))
                    have e176 : a.eval (.tmp 176) = .agg KC.toArray := hd 10 (by decide +kernel) (.inr (by decide))
                    have e178 : a.eval (.tmp 178) = .slice (some ⟨u, 4096, none⟩) 512 (cp - 4096) := hd 12 (by decide +kernel) (.inr (by decide))
                    have e179 : a.eval (.tmp 179) = .agg RC.toArray := hd 13 (by decide +kernel) (.inr (by decide))
                    exact doesG_call (wanted_of rfl (yielded_of rfl e175)) (ex_call (vs := #[.agg KC.toArray, .slice (some ⟨u, 4096, none⟩) 512 (cp - 4096), .agg RC.toArray]) rfl (by simp only [List.map_toArray, List.map_cons, List.map_nil, e176, e178, e179]) (by go_simp)) rfl ((HSM.out w' _ (W15.out.on hB) (RDP4096.out w' hB)).mono fun e w3 hh => ⟨_, hh.1, rfl, hh.2⟩)
                  . intro a w' hF hB hd
                    have e172 : a.eval (.tmp 172) = .bool true := hd 6 (by decide +kernel) (.inr (by decide))
                    have e175 : a.eval (.tmp 175) = .bool false := hd 9 (by decide +kernel) (.inr (by decide))
                    have e180 : a.eval (.tmp 180) = .bool true := hd 14 (by decide +kernel) (.inr (by decide))
                    exact doesG_val (wanted_of rfl (yielded_of rfl e172)) (ex_pick rfl e175 (by simp [e180])) rfl rfl
                  . intro a w' hF hB hd
                    have e172 : a.eval (.tmp 172) = .bool true := hd 6 (by decide +kernel) (.inr (by decide))
                    have e181 : a.eval (.tmp 181) = .bool true := hd 15 (by decide +kernel) (.inr (by decide))
                    exact doesG_val rfl (ex_pick rfl e172 (by simp [e181])) rfl rfl
                  . intro a w' hF hB hd
                    have e182 : a.eval (.tmp 182) = .bool true := hd 16 (by decide +kernel) (.inr (by decide))
                    exact doesG_val rfl (ex_move rfl e182) rfl rfl
                  . intro a w' hF hB hd
                    have e183 : a.eval (.tmp 183) = .bool true := hd 17 (by decide +kernel) (.inr (by decide))
                    exact doesG_call (wanted_of rfl (yielded_of rfl e183)) (ex_call (vs := #[]) rfl (by simp only [List.map_toArray, List.map_nil]) (by go_simp)) rfl ((HAW.out w' (W15.out.on hB)).mono fun e w3 hh => ⟨_, hh.1, rfl, hh.2⟩)
                  . intro a w' hF hB hd
                    have e183 : a.eval (.tmp 183) = .bool true := hd 17 (by decide +kernel) (.inr (by decide))
                    have e184 : a.eval (.tmp 184) = .bool true := hd 18 (by decide +kernel) (.inr (by decide))
                    exact doesG_val rfl (ex_pick rfl e183 (by simp [e184])) rfl rfl
                . intro vs w16 hB hv hap
                  have e185 : vs 19 = .bool true := hv 19 (by decide) (by decide)
                  simp only [List.take_succ_cons, List.take_zero, List.drop_succ_cons, List.drop_zero, putOps, Act.put, List.setIfInBounds_toArray, List.set_cons_zero, List.set_cons_succ, e185]
                  have W99 := Lib.hid (W15.out.on hB)
                  clear hv hap e185 hB
                  generalize vs 0 = y0
                  generalize vs 1 = y1
                  generalize vs 2 = y2
                  generalize vs 3 = y3
                  generalize vs 4 = y4
                  generalize vs 5 = y5
                  generalize vs 6 = y6
                  generalize vs 7 = y7
                  generalize vs 8 = y8
                  generalize vs 9 = y9
                  generalize vs 10 = y10
                  generalize vs 11 = y11
                  generalize vs 12 = y12
                  generalize vs 13 = y13
                  generalize vs 14 = y14
                  generalize vs 15 = y15
                  generalize vs 16 = y16
                  generalize vs 17 = y17
                  generalize vs 18 = y18
                  go_wp2_with fail
                  go_ret
                  exact ⟨rfl, W99.out⟩
          . have NEQ2 := Lib.hid (HE2.out t2)
            rcases T3.out with rfl | ⟨rfl, t3⟩
            . skip
              refine wp_region_g (by kernel_rfl) 29 (by decide) (by kernel_rfl) (by kernel_rfl) (by kernel_rfl) w11.heap.size (Nat.le_refl _) [.val (.int .i64 0), .val (.bool true), .val (.bool true), .val (.int .i64 0), .val (.bool false), .val (.bool false), .val (.bool false), .val (.int .i64 0), .val (.bool true), .val (.bool true), .val (.slice (some ⟨u, 0, none⟩) 16384 cp), .val (.slice (some ⟨u, 4608, none⟩) 512 (cp - 4608)), .val (.agg Q2.toArray), .val (.pointer (some ⟨rP, 1, none⟩)), .val (.agg SM2.toArray), .val (.bool false), .val (.bool false), .val (.bool false), .val (.bool false), .val (.int .i64 40), .val (.bool false), .val (.bool false), .val (undef), .val (undef), .val (undef), .val (undef), .val (undef), .val (undef), .val (.bool false)] (fun _ => 29) ?_ ?_
              . refine ⟨?_, ?_, ?_, ?_, ?_, ?_, ?_, ?_, ?_, ?_, ?_, ?_, ?_, ?_, ?_, ?_, ?_, ?_, ?_, ?_, ?_, ?_, ?_, ?_, ?_, ?_, ?_, ?_, ?_, trivial⟩
                . intro a w' hF hB hd
                  have e20 : a.eval (.tmp 20) = .int .i64 0 := hF 20 (by decide +kernel)
                  exact doesG_val rfl (ex_move rfl e20) rfl rfl
                . intro a w' hF hB hd
                  have e120 : a.eval (.tmp 120) = .int .i64 0 := hd 0 (by decide +kernel) (.inr (by decide))
                  exact doesG_val rfl (ex_binOp rfl e120 rfl (by go_simp) (by go_simp)) rfl rfl
                . intro a w' hF hB hd
                  have e121 : a.eval (.tmp 121) = .bool true := hd 1 (by decide +kernel) (.inr (by decide))
                  exact doesG_val rfl (ex_move rfl e121) rfl rfl
                . intro a w' hF hB hd
                  have e122 : a.eval (.tmp 122) = .bool true := hd 2 (by decide +kernel) (.inr (by decide))
                  have e20 : a.eval (.tmp 20) = .int .i64 0 := hF 20 (by decide +kernel)
                  exact doesG_val (wanted_of rfl (yielded_of rfl e122)) (ex_move rfl e20) rfl rfl
                . intro a w' hF hB hd
                  have e122 : a.eval (.tmp 122) = .bool true := hd 2 (by decide +kernel) (.inr (by decide))
                  have e123 : a.eval (.tmp 123) = .int .i64 0 := hd 3 (by decide +kernel) (.inr (by decide))
                  exact doesG_val (wanted_of rfl (yielded_of rfl e122)) (ex_binOp rfl e123 rfl (by go_simp) (by go_simp)) rfl rfl
                . intro a w' hF hB hd
                  have e122 : a.eval (.tmp 122) = .bool true := hd 2 (by decide +kernel) (.inr (by decide))
                  have e124 : a.eval (.tmp 124) = .bool false := hd 4 (by decide +kernel) (.inr (by decide))
                  exact doesG_val rfl (ex_pick rfl e122 (by simp [e124])) rfl rfl
                . intro a w' hF hB hd
                  have e125 : a.eval (.tmp 125) = .bool false := hd 5 (by decide +kernel) (.inr (by decide))
                  exact doesG_val rfl (ex_move rfl e125) rfl rfl
                . intro a w' hF hB hd
                  have e126 : a.eval (.tmp 126) = .bool false := hd 6 (by decide +kernel) (.inr (by decide))
                  have e22 : a.eval (.tmp 22) = .int .i64 0 := hF 22 (by decide +kernel)
                  exact doesG_val (wanted_of rfl (yielded_of rfl e126)) (ex_move rfl e22) rfl rfl
                . intro a w' hF hB hd
                  have e126 : a.eval (.tmp 126) = .bool false := hd 6 (by decide +kernel) (.inr (by decide))
                  have e127 : a.eval (.tmp 127) = .int .i64 0 := hd 7 (by decide +kernel) (.inr (by decide))
                  exact doesG_val (wanted_of rfl (yielded_of rfl e126)) (ex_binOp rfl e127 rfl (by go_simp) (by go_simp)) rfl rfl
                . intro a w' hF hB hd
                  have e126 : a.eval (.tmp 126) = .bool false := hd 6 (by decide +kernel) (.inr (by decide))
                  have e128 : a.eval (.tmp 128) = .bool true := hd 8 (by decide +kernel) (.inr (by decide))
                  exact doesG_val (wanted_of rfl (yielded_of rfl e126)) (ex_move rfl e128) rfl rfl
                . intro a w' hF hB hd
                  have e129 : a.eval (.tmp 129) = .bool true := hd 9 (by decide +kernel) (.inr (by decide))
                  have e16 : a.eval (.tmp 16) = .slice (some ⟨u, 0, none⟩) 16384 cp := hF 16 (by decide +kernel)
                  exact doesG_val (wanted_of rfl (yielded_of rfl e129)) (ex_move rfl e16) rfl rfl
                . intro a w' hF hB hd
                  have e129 : a.eval (.tmp 129) = .bool true := hd 9 (by decide +kernel) (.inr (by decide))
                  have e130 : a.eval (.tmp 130) = .slice (some ⟨u, 0, none⟩) 16384 cp := hd 10 (by decide +kernel) (.inr (by decide))
                  exact doesG_val (wanted_of rfl (yielded_of rfl e129)) (ex_slice_lh (k := 4608) (h := 5120) (cap := cp) (n := 16384) (ad := ⟨u, 0, none⟩) rfl e130 rfl rfl (by decide) (by have := HCP.out; omega) (by have := HCP.out; omega)) rfl rfl
                . intro a w' hF hB hd
                  have e129 : a.eval (.tmp 129) = .bool true := hd 9 (by decide +kernel) (.inr (by decide))
                  have e131 : a.eval (.tmp 131) = .slice (some ⟨u, 4608, none⟩) 512 (cp - 4608) := hd 11 (by decide +kernel) (.inr (by decide))
                  exact doesG_call (wanted_of rfl (yielded_of rfl e129)) (ex_call (vs := #[.slice (some ⟨u, 4608, none⟩) 512 (cp - 4608)]) rfl (by simp only [List.map_toArray, List.map_cons, List.map_nil, e131]) (by go_simp)) rfl ((HPS.out w' _ (W11.out.on hB) (RDP4608.out w' hB)).mono fun e w3 hh => ⟨_, hh.1, rfl, hh.2⟩)
                . intro a w' hF hB hd
                  have e129 : a.eval (.tmp 129) = .bool true := hd 9 (by decide +kernel) (.inr (by decide))
                  have e12 : a.eval (.tmp 12) = .pointer (some ⟨rP, 0, none⟩) := hF 12 (by decide +kernel)
                  exact doesG_val (wanted_of rfl (yielded_of rfl e129)) (ex_fieldAddr rfl e12 (by go_simp)) rfl rfl
                . intro a w' hF hB hd
                  have e129 : a.eval (.tmp 129) = .bool true := hd 9 (by decide +kernel) (.inr (by decide))
                  have e133 : a.eval (.tmp 133) = .pointer (some ⟨rP, 1, none⟩) := hd 13 (by decide +kernel) (.inr (by decide))
                  exact doesG_val (wanted_of rfl (yielded_of rfl e129)) (ex_load_part 47 (.tmp 133) rfl rP 1 e133 SM2 _ (SRP.out w' hB) Tryz.underlying47 rfl (by rw [SM232.out]; exact infoS)) rfl rfl
                . intro a w' hF hB hd
                  have e129 : a.eval (.tmp 129) = .bool true := hd 9 (by decide +kernel) (.inr (by decide))
                  have e132 : a.eval (.tmp 132) = .agg Q2.toArray := hd 12 (by decide +kernel) (.inr (by decide))
                  have e134 : a.eval (.tmp 134) = .agg SM2.toArray := hd 14 (by decide +kernel) (.inr (by decide))
                  exact doesG_val (wanted_of rfl (yielded_of rfl e129)) (ex_binOp rfl e132 e134 (run_eqGuard_agg (P := Tryz.prog) (w := w') .neq 47 _ _ _ _ eqTypeS) (NEQ2.out w')) rfl rfl
                . intro a w' hF hB hd
                  have e126 : a.eval (.tmp 126) = .bool false := hd 6 (by decide +kernel) (.inr (by decide))
                  have e129 : a.eval (.tmp 129) = .bool true := hd 9 (by decide +kernel) (.inr (by decide))
                  have e135 : a.eval (.tmp 135) = .bool false := hd 15 (by decide +kernel) (.inr (by decide))
                  exact doesG_val (wanted_of rfl (yielded_of rfl e126)) (ex_pick rfl e129 (by simp [e135])) rfl rfl
                . intro a w' hF hB hd
                  have e126 : a.eval (.tmp 126) = .bool false := hd 6 (by decide +kernel) (.inr (by decide))
                  have e136 : a.eval (.tmp 136) = .bool false := hd 16 (by decide +kernel) (.inr (by decide))
                  exact doesG_val rfl (ex_pick rfl e126 (by simp [e136])) rfl rfl
                . intro a w' hF hB hd
                  have e137 : a.eval (.tmp 137) = .bool false := hd 17 (by decide +kernel) (.inr (by decide))
                  exact doesG_val rfl (ex_move rfl e137) rfl rfl
                . intro a w' hF hB hd
                  have e138 : a.eval (.tmp 138) = .bool false := hd 18 (by decide +kernel) (.inr (by decide))
                  have e24 : a.eval (.tmp 24) = .int .i64 40 := hF 24 (by decide +kernel)
                  exact doesG_val (wanted_of rfl (yielded_of rfl e138)) (ex_move rfl e24) rfl rfl
                . intro a w' hF hB hd
                  have e138 : a.eval (.tmp 138) = .bool false := hd 18 (by decide +kernel) (.inr (by decide))
                  have e139 : a.eval (.tmp 139) = .int .i64 40 := hd 19 (by decide +kernel) (.inr (by decide))
                  exact doesG_val (wanted_of rfl (yielded_of rfl e138)) (ex_binOp rfl e139 rfl (by go_simp) (by go_simp)) rfl rfl
                . intro a w' hF hB hd
                  have e138 : a.eval (.tmp 138) = .bool false := hd 18 (by decide +kernel) (.inr (by decide))
                  have e140 : a.eval (.tmp 140) = .bool false := hd 20 (by decide +kernel) (.inr (by decide))
                  exact doesG_val (wanted_of rfl (yielded_of rfl e138)) (ex_move rfl e140) rfl rfl
                . intro a w' hF hB hd
                  have e141 : a.eval (.tmp 141) = .bool false := hd 21 (by decide +kernel) (.inr (by decide))
                  exact doesG_skip (unwanted_of rfl (yielded_of rfl e141) (by decide)) rfl
                . intro a w' hF hB hd
                  have e141 : a.eval (.tmp 141) = .bool false := hd 21 (by decide +kernel) (.inr (by decide))
                  exact doesG_skip (unwanted_of rfl (yielded_of rfl e141) (by decide)) rfl
                . intro a w' hF hB hd
                  have e141 : a.eval (.tmp 141) = .bool false := hd 21 (by decide +kernel) (.inr (by decide))
                  exact doesG_skip (unwanted_of rfl (yielded_of rfl e141) (by decide)) rfl
                . intro a w' hF hB hd
                  have e141 : a.eval (.tmp 141) = .bool false := hd 21 (by decide +kernel) (.inr (by decide))
                  exact doesG_skip (unwanted_of rfl (yielded_of rfl e141) (by decide)) rfl
                . intro a w' hF hB hd
                  have e141 : a.eval (.tmp 141) = .bool false := hd 21 (by decide +kernel) (.inr (by decide))
                  exact doesG_skip (unwanted_of rfl (yielded_of rfl e141) (by decide)) rfl
                . intro a w' hF hB hd
                  have e141 : a.eval (.tmp 141) = .bool false := hd 21 (by decide +kernel) (.inr (by decide))
                  exact doesG_skip (unwanted_of rfl (yielded_of rfl e141) (by decide)) rfl
                . intro a w' hF hB hd
                  have e138 : a.eval (.tmp 138) = .bool false := hd 18 (by decide +kernel) (.inr (by decide))
                  have e141 : a.eval (.tmp 141) = .bool false := hd 21 (by decide +kernel) (.inr (by decide))
                  exact doesG_val (wanted_of rfl (yielded_of rfl e138)) (ex_pick rfl e141 (rfl)) rfl rfl
              . intro vs w12 hB hv hap
                have e137 : vs 17 = .bool false := hv 17 (by decide) (by decide)
                have e138 : vs 18 = .bool false := hv 18 (by decide) (by decide)
                have e148 : vs 28 = .bool false := hv 28 (by decide) (by decide)
                simp only [List.take_succ_cons, List.take_zero, List.drop_succ_cons, List.drop_zero, putOps, Act.put, List.setIfInBounds_toArray, List.set_cons_zero, List.set_cons_succ, e137, e138, e148]
                have K12 := Lib.hid (K11.out.below hB K11.out.lt); have G12 := Lib.hid (G11.out.below hB G11.out.lt); have X12 := Lib.hid (X11.out.below hB X11.out.lt); have P12 := Lib.hid (P11.out.below hB P11.out.lt); have Q12 := Lib.hid (Q11.out.below hB Q11.out.lt); have O12 := Lib.hid (O11.out.below hB); have W12 := Lib.hid (W11.out.on hB); obtain ⟨A12, l', i', n'⟩ := L11.out.own2 hB; have L12 := Lib.hid l'; have MK12 := Lib.hid (i' _ MK11.out); have MG12 := Lib.hid (i' _ MG11.out); have MX12 := Lib.hid (i' _ MX11.out); have MP12 := Lib.hid (i' _ MP11.out); have MQ12 := Lib.hid (i' _ MQ11.out); have MO12 := Lib.hid (fun h g e => (MO11.out h g e).imp_right (i' g)); clear hv hap e137 e138 e148 hB l' i' n'
                generalize vs 0 = z0
                generalize vs 1 = z1
                generalize vs 2 = z2
                generalize vs 3 = z3
                generalize vs 4 = z4
                generalize vs 5 = z5
                generalize vs 6 = z6
                generalize vs 7 = z7
                generalize vs 8 = z8
                generalize vs 9 = z9
                generalize vs 10 = z10
                generalize vs 11 = z11
                generalize vs 12 = z12
                generalize vs 13 = z13
                generalize vs 14 = z14
                generalize vs 15 = z15
                generalize vs 16 = z16
                generalize vs 19 = z19
                generalize vs 20 = z20
                generalize vs 21 = z21
                generalize vs 22 = z22
                generalize vs 23 = z23
                generalize vs 24 = z24
                generalize vs 25 = z25
                generalize vs 26 = z26
                generalize vs 27 = z27
                have OC := Lib.hid (show Rd w12 (.slice (some ⟨u, 0, none⟩) 4200 cp) CUT by rw [HCUT.out]; exact O12.out.take 4200 (by rw [HAEl.out]; decide))
                have MOC := Lib.hid (fun (_ : 0 < CUT.length) g (e : (Value.slice (some ⟨u, 0, none⟩) 4200 cp).ownBlock = some g) => MO12.out (by rw [HAEl.out]; decide) g e)
                go_upto_region 28 with (first
                  | ((with_reducible show wpList _ _ _ (Oper.mk (some 152) (.slice _ _ _ _ _) _ _ _ _ :: _) _ _); refine wpList_wanted rfl (.slice (some ⟨u, 0, none⟩) 4200 cp) (HCS.out _ _ _ rfl rfl) ?_)
                  | (go_at_call 23; (with_reducible refine (HLD.out w12 s d _ (.slice (some ⟨u, 0, none⟩) 4200 cp) L12.out OC.out MOC.out).mono ?_); rintro e w13 ⟨rfl, ll, kk⟩; have L13 := Lib.hid ll; have K13 := Lib.hid (K12.out.kept kk (.inr MK12.out)); have MK13 := MK12; have G13 := Lib.hid (G12.out.kept kk (.inr MG12.out)); have MG13 := MG12; have X13 := Lib.hid (X12.out.kept kk (.inr MX12.out)); have MX13 := MX12; have P13 := Lib.hid (P12.out.kept kk (.inr MP12.out)); have MP13 := MP12; have Q13 := Lib.hid (Q12.out.kept kk (.inr MQ12.out)); have MQ13 := MQ12; have O13 := Lib.hid (O12.out.kept0 kk MO12.out); have MO13 := MO12; have W13 := Lib.hid (kk.below W12.out W12.out.size); clear kk ll)
                  | ((with_reducible show wpList _ _ _ (Oper.mk (some 156) (.load _ (.tmp 10)) _ _ _ _ :: _) _ _); refine wpList_load_wanted rfl 49 (.tmp 10) rfl rX 0 rfl RC _ X13.out.range Tryz.underlying49 rfl (by rw [RC33.out]; exact infoRfQ) ?_)
                  | (go_at_call 14; (with_reducible refine (HD2.out w13 s d _ L13.out).mono ?_); rintro e w14 ⟨y, rfl, bb⟩; have K14 := Lib.hid (K13.out.below bb K13.out.lt); have G14 := Lib.hid (G13.out.below bb G13.out.lt); have X14 := Lib.hid (X13.out.below bb X13.out.lt); have P14 := Lib.hid (P13.out.below bb P13.out.lt); have Q14 := Lib.hid (Q13.out.below bb Q13.out.lt); have O14 := Lib.hid (O13.out.below bb); have W14 := Lib.hid (W13.out.on bb); obtain ⟨A14, l', i', n'⟩ := L13.out.own2 bb; have L14 := Lib.hid l'; have MK14 := Lib.hid (i' _ MK13.out); have MG14 := Lib.hid (i' _ MG13.out); have MX14 := Lib.hid (i' _ MX13.out); have MP14 := Lib.hid (i' _ MP13.out); have MQ14 := Lib.hid (i' _ MQ13.out); have MO14 := Lib.hid (fun h g e => (MO13.out h g e).imp_right (i' g)); clear bb l' i' n')
                  | ((with_reducible show wpList _ _ _ (Oper.mk (some 162) (.load _ (.tmp 12)) _ _ _ _ :: _) _ _); refine wpList_load_wanted rfl 49 (.tmp 12) rfl rP 0 rfl PC _ P14.out.range Tryz.underlying49 rfl (by rw [PC33.out]; exact infoRfQ) ?_)
                  | (go_at_call 16; (with_reducible refine (HP2.out w14 s d _ L14.out).mono ?_); rintro e w15 ⟨y, rfl, bb⟩; have K15 := Lib.hid (K14.out.below bb K14.out.lt); have G15 := Lib.hid (G14.out.below bb G14.out.lt); have X15 := Lib.hid (X14.out.below bb X14.out.lt); have P15 := Lib.hid (P14.out.below bb P14.out.lt); have Q15 := Lib.hid (Q14.out.below bb Q14.out.lt); have O15 := Lib.hid (O14.out.below bb); have W15 := Lib.hid (W14.out.on bb); obtain ⟨A15, l', i', n'⟩ := L14.out.own2 bb; have L15 := Lib.hid l'; have MK15 := Lib.hid (i' _ MK14.out); have MG15 := Lib.hid (i' _ MG14.out); have MX15 := Lib.hid (i' _ MX14.out); have MP15 := Lib.hid (i' _ MP14.out); have MQ15 := Lib.hid (i' _ MQ14.out); have MO15 := Lib.hid (fun h g e => (MO14.out h g e).imp_right (i' g)); clear bb l' i' n'))
                have RDP4096 := Lib.hid (fun w' (hB : Below w15.heap.size w15 w') => (show Rd w' (.slice (some ⟨u, 4096, none⟩) 512 (cp - 4096)) P0 by rw [HP0.out]; have q := ((O15.out.below hB).piece 4096 512 (cp - 4096) (by rw [HAEl.out]; decide) (by have := HCP.out; omega)); rw [addr_at0] at q; exact q))
                refine wp_region_g (by kernel_rfl) 20 (by decide) (by kernel_rfl) (by kernel_rfl) (by kernel_rfl) w15.heap.size (Nat.le_refl _) [.val (.int .i64 40), .val (.bool true), .val (.bool true), .val (.int .i64 40), .val (.bool true), .val (.bool true), .val (.bool true), .val (.int .i64 0), .val (.bool false), .val (.bool false), .val (.agg KC.toArray), .val (.slice (some ⟨u, 0, none⟩) 16384 cp), .val (.slice (some ⟨u, 4096, none⟩) 512 (cp - 4096)), .val (.agg RC.toArray), .val (.bool true), .val (.bool true), .val (.bool true), .val (.bool true), .val (.bool true), .val (.bool true)] (fun _ => 20) ?_ ?_
                . refine ⟨?_, ?_, ?_, ?_, ?_, ?_, ?_, ?_, ?_, ?_, ?_, ?_, ?_, ?_, ?_, ?_, ?_, ?_, ?_, ?_, trivial⟩
                  . intro a w' hF hB hd
                    have e26 : a.eval (.tmp 26) = .int .i64 40 := hF 26 (by decide +kernel)
                    exact doesG_val rfl (ex_move rfl e26) rfl rfl
                  . intro a w' hF hB hd
                    have e166 : a.eval (.tmp 166) = .int .i64 40 := hd 0 (by decide +kernel) (.inr (by decide))
                    exact doesG_val rfl (ex_binOp rfl e166 rfl (by go_simp) (by go_simp)) rfl rfl
                  . intro a w' hF hB hd
                    have e167 : a.eval (.tmp 167) = .bool true := hd 1 (by decide +kernel) (.inr (by decide))
                    exact doesG_val rfl (ex_move rfl e167) rfl rfl
                  . intro a w' hF hB hd
                    have e168 : a.eval (.tmp 168) = .bool true := hd 2 (by decide +kernel) (.inr (by decide))
                    have e28 : a.eval (.tmp 28) = .int .i64 40 := hF 28 (by decide +kernel)
                    exact doesG_val (wanted_of rfl (yielded_of rfl e168)) (ex_move rfl e28) rfl rfl
                  . intro a w' hF hB hd
                    have e168 : a.eval (.tmp 168) = .bool true := hd 2 (by decide +kernel) (.inr (by decide))
                    have e169 : a.eval (.tmp 169) = .int .i64 40 := hd 3 (by decide +kernel) (.inr (by decide))
                    exact doesG_val (wanted_of rfl (yielded_of rfl e168)) (ex_binOp rfl e169 rfl (by go_simp) (by go_simp)) rfl rfl
                  . intro a w' hF hB hd
                    have e168 : a.eval (.tmp 168) = .bool true := hd 2 (by decide +kernel) (.inr (by decide))
                    have e170 : a.eval (.tmp 170) = .bool true := hd 4 (by decide +kernel) (.inr (by decide))
                    exact doesG_val rfl (ex_pick rfl e168 (by simp [e170])) rfl rfl
                  . intro a w' hF hB hd
                    have e171 : a.eval (.tmp 171) = .bool true := hd 5 (by decide +kernel) (.inr (by decide))
                    exact doesG_val rfl (ex_move rfl e171) rfl rfl
                  . intro a w' hF hB hd
                    have e172 : a.eval (.tmp 172) = .bool true := hd 6 (by decide +kernel) (.inr (by decide))
                    have e20 : a.eval (.tmp 20) = .int .i64 0 := hF 20 (by decide +kernel)
                    exact doesG_val (wanted_of rfl (yielded_of rfl e172)) (ex_move rfl e20) rfl rfl
                  . intro a w' hF hB hd
                    have e172 : a.eval (.tmp 172) = .bool true := hd 6 (by decide +kernel) (.inr (by decide))
                    have e173 : a.eval (.tmp 173) = .int .i64 0 := hd 7 (by decide +kernel) (.inr (by decide))
                    exact doesG_val (wanted_of rfl (yielded_of rfl e172)) (ex_binOp rfl e173 rfl (by go_simp) (by go_simp)) rfl rfl
                  . intro a w' hF hB hd
                    have e172 : a.eval (.tmp 172) = .bool true := hd 6 (by decide +kernel) (.inr (by decide))
                    have e174 : a.eval (.tmp 174) = .bool false := hd 8 (by decide +kernel) (.inr (by decide))
                    exact doesG_val (wanted_of rfl (yielded_of rfl e172)) (ex_move rfl e174) rfl rfl
                  . intro a w' hF hB hd
                    have e175 : a.eval (.tmp 175) = .bool false := hd 9 (by decide +kernel) (.inr (by decide))
                    have e3 : a.eval (.tmp 3) = .pointer (some ⟨w.heap.size, 0, none⟩) := hF 3 (by decide +kernel)
                    exact doesG_val (wanted_of rfl (yielded_of rfl e175)) (ex_load_part 23 (.tmp 3) rfl w.heap.size 0 e3 KC _ ((K15.out.below hB K15.out.lt).range) Tryz.underlying23 rfl (by rw [KC32.out]; exact infoKeyP)) rfl rfl
                  . intro a w' hF hB hd
                    have e175 : a.eval (.tmp 175) = .bool false := hd 9 (by decide +kernel) (.inr (by decide))
                    have e16 : a.eval (.tmp 16) = .slice (some ⟨u, 0, none⟩) 16384 cp := hF 16 (by decide +kernel)
                    exact doesG_val (wanted_of rfl (yielded_of rfl e175)) (ex_move rfl e16) rfl rfl
                  . intro a w' hF hB hd
                    have e175 : a.eval (.tmp 175) = .bool false := hd 9 (by decide +kernel) (.inr (by decide))
                    have e177 : a.eval (.tmp 177) = .slice (some ⟨u, 0, none⟩) 16384 cp := hd 11 (by decide +kernel) (.inr (by decide))
                    exact doesG_val (wanted_of rfl (yielded_of rfl e175)) (ex_slice_lh (k := 4096) (h := 4608) (cap := cp) (n := 16384) (ad := ⟨u, 0, none⟩) rfl e177 rfl rfl (by decide) (by have := HCP.out; omega) (by have := HCP.out; omega)) rfl rfl
                  . intro a w' hF hB hd
                    have e175 : a.eval (.tmp 175) = .bool false := hd 9 (by decide +kernel) (.inr (by decide))
                    have e10 : a.eval (.tmp 10) = .pointer (some ⟨rX, 0, none⟩) := hF 10 (by decide +kernel)
                    exact doesG_val (wanted_of rfl (yielded_of rfl e175)) (ex_load_part 49 (.tmp 10) rfl rX 0 e10 RC _ ((X15.out.below hB X15.out.lt).range) Tryz.underlying49 rfl (by rw [RC33.out]; exact infoRfQ)) rfl rfl
                  . intro a w' hF hB hd
                    have e175 : a.eval (.tmp 175) = .bool false := hd 9 (by decide +kernel) (.inr (by decide))
                    have e176 : a.eval (.tmp 176) = .agg KC.toArray := hd 10 (by decide +kernel) (.inr (by decide))
                    have e178 : a.eval (.tmp 178) = .slice (some ⟨u, 4096, none⟩) 512 (cp - 4096) := hd 12 (by decide +kernel) (.inr (by decide))
                    have e179 : a.eval (.tmp 179) = .agg RC.toArray := hd 13 (by decide +kernel) (.inr (by decide))
                    exact doesG_call (wanted_of rfl (yielded_of rfl e175)) (ex_call (vs := #[.agg KC.toArray, .slice (some ⟨u, 4096, none⟩) 512 (cp - 4096), .agg RC.toArray]) rfl (by simp only [List.map_toArray, List.map_cons, List.map_nil, e176, e178, e179]) (by go_simp)) rfl ((HSM.out w' _ (W15.out.on hB) (RDP4096.out w' hB)).mono fun e w3 hh => ⟨_, hh.1, rfl, hh.2⟩)
                  . intro a w' hF hB hd
                    have e172 : a.eval (.tmp 172) = .bool true := hd 6 (by decide +kernel) (.inr (by decide))
                    have e175 : a.eval (.tmp 175) = .bool false := hd 9 (by decide +kernel) (.inr (by decide))
                    have e180 : a.eval (.tmp 180) = .bool true := hd 14 (by decide +kernel) (.inr (by decide))
                    exact doesG_val (wanted_of rfl (yielded_of rfl e172)) (ex_pick rfl e175 (by simp [e180])) rfl rfl
                  . intro a w' hF hB hd
                    have e172 : a.eval (.tmp 172) = .bool true := hd 6 (by decide +kernel) (.inr (by decide))
                    have e181 : a.eval (.tmp 181) = .bool true := hd 15 (by decide +kernel) (.inr (by decide))
                    exact doesG_val rfl (ex_pick rfl e172 (by simp [e181])) rfl rfl
                  . intro a w' hF hB hd
                    have e182 : a.eval (.tmp 182) = .bool true := hd 16 (by decide +kernel) (.inr (by decide))
                    exact doesG_val rfl (ex_move rfl e182) rfl rfl
                  . intro a w' hF hB hd
                    have e183 : a.eval (.tmp 183) = .bool true := hd 17 (by decide +kernel) (.inr (by decide))
                    exact doesG_call (wanted_of rfl (yielded_of rfl e183)) (ex_call (vs := #[]) rfl (by simp only [List.map_toArray, List.map_nil]) (by go_simp)) rfl ((HAW.out w' (W15.out.on hB)).mono fun e w3 hh => ⟨_, hh.1, rfl, hh.2⟩)
                  . intro a w' hF hB hd
                    have e183 : a.eval (.tmp 183) = .bool true := hd 17 (by decide +kernel) (.inr (by decide))
                    have e184 : a.eval (.tmp 184) = .bool true := hd 18 (by decide +kernel) (.inr (by decide))
                    exact doesG_val rfl (ex_pick rfl e183 (by simp [e184])) rfl rfl
                . intro vs w16 hB hv hap
                  have e185 : vs 19 = .bool true := hv 19 (by decide) (by decide)
                  simp only [List.take_succ_cons, List.take_zero, List.drop_succ_cons, List.drop_zero, putOps, Act.put, List.setIfInBounds_toArray, List.set_cons_zero, List.set_cons_succ, e185]
                  have W99 := Lib.hid (W15.out.on hB)
                  clear hv hap e185 hB
                  generalize vs 0 = y0
                  generalize vs 1 = y1
                  generalize vs 2 = y2
                  generalize vs 3 = y3
                  generalize vs 4 = y4
                  generalize vs 5 = y5
                  generalize vs 6 = y6
                  generalize vs 7 = y7
                  generalize vs 8 = y8
                  generalize vs 9 = y9
                  generalize vs 10 = y10
                  generalize vs 11 = y11
                  generalize vs 12 = y12
                  generalize vs 13 = y13
                  generalize vs 14 = y14
                  generalize vs 15 = y15
                  generalize vs 16 = y16
                  generalize vs 17 = y17
                  generalize vs 18 = y18
                  go_wp2_with fail
                  go_ret
                  exact ⟨rfl, W99.out⟩
            . have NEQ3 := Lib.hid (HE3.out t3)
              refine wp_region_g (by kernel_rfl) 29 (by decide) (by kernel_rfl) (by kernel_rfl) (by kernel_rfl) w11.heap.size (Nat.le_refl _) [.val (.int .i64 0), .val (.bool true), .val (.bool true), .val (.int .i64 0), .val (.bool false), .val (.bool false), .val (.bool false), .val (.int .i64 0), .val (.bool true), .val (.bool true), .val (.slice (some ⟨u, 0, none⟩) 16384 cp), .val (.slice (some ⟨u, 4608, none⟩) 512 (cp - 4608)), .val (.agg Q2.toArray), .val (.pointer (some ⟨rP, 1, none⟩)), .val (.agg SM2.toArray), .val (.bool false), .val (.bool false), .val (.bool false), .val (.bool false), .val (.int .i64 0), .val (.bool true), .val (.bool true), .val (.slice (some ⟨u, 0, none⟩) 16384 cp), .val (.slice (some ⟨u, 5120, none⟩) 512 (cp - 5120)), .val (.agg Q3.toArray), .val (.pointer (some ⟨rQ, 1, none⟩)), .val (.agg SM3.toArray), .val (.bool false), .val (.bool false)] (fun _ => 29) ?_ ?_
              . refine ⟨?_, ?_, ?_, ?_, ?_, ?_, ?_, ?_, ?_, ?_, ?_, ?_, ?_, ?_, ?_, ?_, ?_, ?_, ?_, ?_, ?_, ?_, ?_, ?_, ?_, ?_, ?_, ?_, ?_, trivial⟩
                . intro a w' hF hB hd
                  have e20 : a.eval (.tmp 20) = .int .i64 0 := hF 20 (by decide +kernel)
                  exact doesG_val rfl (ex_move rfl e20) rfl rfl
                . intro a w' hF hB hd
                  have e120 : a.eval (.tmp 120) = .int .i64 0 := hd 0 (by decide +kernel) (.inr (by decide))
                  exact doesG_val rfl (ex_binOp rfl e120 rfl (by go_simp) (by go_simp)) rfl rfl
                . intro a w' hF hB hd
                  have e121 : a.eval (.tmp 121) = .bool true := hd 1 (by decide +kernel) (.inr (by decide))
                  exact doesG_val rfl (ex_move rfl e121) rfl rfl
                . intro a w' hF hB hd
                  have e122 : a.eval (.tmp 122) = .bool true := hd 2 (by decide +kernel) (.inr (by decide))
                  have e20 : a.eval (.tmp 20) = .int .i64 0 := hF 20 (by decide +kernel)
                  exact doesG_val (wanted_of rfl (yielded_of rfl e122)) (ex_move rfl e20) rfl rfl
                . intro a w' hF hB hd
                  have e122 : a.eval (.tmp 122) = .bool true := hd 2 (by decide +kernel) (.inr (by decide))
                  have e123 : a.eval (.tmp 123) = .int .i64 0 := hd 3 (by decide +kernel) (.inr (by decide))
                  exact doesG_val (wanted_of rfl (yielded_of rfl e122)) (ex_binOp rfl e123 rfl (by go_simp) (by go_simp)) rfl rfl
                . intro a w' hF hB hd
                  have e122 : a.eval (.tmp 122) = .bool true := hd 2 (by decide +kernel) (.inr (by decide))
                  have e124 : a.eval (.tmp 124) = .bool false := hd 4 (by decide +kernel) (.inr (by decide))
                  exact doesG_val rfl (ex_pick rfl e122 (by simp [e124])) rfl rfl
                . intro a w' hF hB hd
                  have e125 : a.eval (.tmp 125) = .bool false := hd 5 (by decide +kernel) (.inr (by decide))
                  exact doesG_val rfl (ex_move rfl e125) rfl rfl
                . intro a w' hF hB hd
                  have e126 : a.eval (.tmp 126) = .bool false := hd 6 (by decide +kernel) (.inr (by decide))
                  have e22 : a.eval (.tmp 22) = .int .i64 0 := hF 22 (by decide +kernel)
                  exact doesG_val (wanted_of rfl (yielded_of rfl e126)) (ex_move rfl e22) rfl rfl
                . intro a w' hF hB hd
                  have e126 : a.eval (.tmp 126) = .bool false := hd 6 (by decide +kernel) (.inr (by decide))
                  have e127 : a.eval (.tmp 127) = .int .i64 0 := hd 7 (by decide +kernel) (.inr (by decide))
                  exact doesG_val (wanted_of rfl (yielded_of rfl e126)) (ex_binOp rfl e127 rfl (by go_simp) (by go_simp)) rfl rfl
                . intro a w' hF hB hd
                  have e126 : a.eval (.tmp 126) = .bool false := hd 6 (by decide +kernel) (.inr (by decide))
                  have e128 : a.eval (.tmp 128) = .bool true := hd 8 (by decide +kernel) (.inr (by decide))
                  exact doesG_val (wanted_of rfl (yielded_of rfl e126)) (ex_move rfl e128) rfl rfl
                . intro a w' hF hB hd
                  have e129 : a.eval (.tmp 129) = .bool true := hd 9 (by decide +kernel) (.inr (by decide))
                  have e16 : a.eval (.tmp 16) = .slice (some ⟨u, 0, none⟩) 16384 cp := hF 16 (by decide +kernel)
                  exact doesG_val (wanted_of rfl (yielded_of rfl e129)) (ex_move rfl e16) rfl rfl
                . intro a w' hF hB hd
                  have e129 : a.eval (.tmp 129) = .bool true := hd 9 (by decide +kernel) (.inr (by decide))
                  have e130 : a.eval (.tmp 130) = .slice (some ⟨u, 0, none⟩) 16384 cp := hd 10 (by decide +kernel) (.inr (by decide))
                  exact doesG_val (wanted_of rfl (yielded_of rfl e129)) (ex_slice_lh (k := 4608) (h := 5120) (cap := cp) (n := 16384) (ad := ⟨u, 0, none⟩) rfl e130 rfl rfl (by decide) (by have := HCP.out; omega) (by have := HCP.out; omega)) rfl rfl
                . intro a w' hF hB hd
                  have e129 : a.eval (.tmp 129) = .bool true := hd 9 (by decide +kernel) (.inr (by decide))
                  have e131 : a.eval (.tmp 131) = .slice (some ⟨u, 4608, none⟩) 512 (cp - 4608) := hd 11 (by decide +kernel) (.inr (by decide))
                  exact doesG_call (wanted_of rfl (yielded_of rfl e129)) (ex_call (vs := #[.slice (some ⟨u, 4608, none⟩) 512 (cp - 4608)]) rfl (by simp only [List.map_toArray, List.map_cons, List.map_nil, e131]) (by go_simp)) rfl ((HPS.out w' _ (W11.out.on hB) (RDP4608.out w' hB)).mono fun e w3 hh => ⟨_, hh.1, rfl, hh.2⟩)
                . intro a w' hF hB hd
                  have e129 : a.eval (.tmp 129) = .bool true := hd 9 (by decide +kernel) (.inr (by decide))
                  have e12 : a.eval (.tmp 12) = .pointer (some ⟨rP, 0, none⟩) := hF 12 (by decide +kernel)
                  exact doesG_val (wanted_of rfl (yielded_of rfl e129)) (ex_fieldAddr rfl e12 (by go_simp)) rfl rfl
                . intro a w' hF hB hd
                  have e129 : a.eval (.tmp 129) = .bool true := hd 9 (by decide +kernel) (.inr (by decide))
                  have e133 : a.eval (.tmp 133) = .pointer (some ⟨rP, 1, none⟩) := hd 13 (by decide +kernel) (.inr (by decide))
                  exact doesG_val (wanted_of rfl (yielded_of rfl e129)) (ex_load_part 47 (.tmp 133) rfl rP 1 e133 SM2 _ (SRP.out w' hB) Tryz.underlying47 rfl (by rw [SM232.out]; exact infoS)) rfl rfl
                . intro a w' hF hB hd
                  have e129 : a.eval (.tmp 129) = .bool true := hd 9 (by decide +kernel) (.inr (by decide))
                  have e132 : a.eval (.tmp 132) = .agg Q2.toArray := hd 12 (by decide +kernel) (.inr (by decide))
                  have e134 : a.eval (.tmp 134) = .agg SM2.toArray := hd 14 (by decide +kernel) (.inr (by decide))
                  exact doesG_val (wanted_of rfl (yielded_of rfl e129)) (ex_binOp rfl e132 e134 (run_eqGuard_agg (P := Tryz.prog) (w := w') .neq 47 _ _ _ _ eqTypeS) (NEQ2.out w')) rfl rfl
                . intro a w' hF hB hd
                  have e126 : a.eval (.tmp 126) = .bool false := hd 6 (by decide +kernel) (.inr (by decide))
                  have e129 : a.eval (.tmp 129) = .bool true := hd 9 (by decide +kernel) (.inr (by decide))
                  have e135 : a.eval (.tmp 135) = .bool false := hd 15 (by decide +kernel) (.inr (by decide))
                  exact doesG_val (wanted_of rfl (yielded_of rfl e126)) (ex_pick rfl e129 (by simp [e135])) rfl rfl
                . intro a w' hF hB hd
                  have e126 : a.eval (.tmp 126) = .bool false := hd 6 (by decide +kernel) (.inr (by decide))
                  have e136 : a.eval (.tmp 136) = .bool false := hd 16 (by decide +kernel) (.inr (by decide))
                  exact doesG_val rfl (ex_pick rfl e126 (by simp [e136])) rfl rfl
                . intro a w' hF hB hd
                  have e137 : a.eval (.tmp 137) = .bool false := hd 17 (by decide +kernel) (.inr (by decide))
                  exact doesG_val rfl (ex_move rfl e137) rfl rfl
                . intro a w' hF hB hd
                  have e138 : a.eval (.tmp 138) = .bool false := hd 18 (by decide +kernel) (.inr (by decide))
                  have e24 : a.eval (.tmp 24) = .int .i64 0 := hF 24 (by decide +kernel)
                  exact doesG_val (wanted_of rfl (yielded_of rfl e138)) (ex_move rfl e24) rfl rfl
                . intro a w' hF hB hd
                  have e138 : a.eval (.tmp 138) = .bool false := hd 18 (by decide +kernel) (.inr (by decide))
                  have e139 : a.eval (.tmp 139) = .int .i64 0 := hd 19 (by decide +kernel) (.inr (by decide))
                  exact doesG_val (wanted_of rfl (yielded_of rfl e138)) (ex_binOp rfl e139 rfl (by go_simp) (by go_simp)) rfl rfl
                . intro a w' hF hB hd
                  have e138 : a.eval (.tmp 138) = .bool false := hd 18 (by decide +kernel) (.inr (by decide))
                  have e140 : a.eval (.tmp 140) = .bool true := hd 20 (by decide +kernel) (.inr (by decide))
                  exact doesG_val (wanted_of rfl (yielded_of rfl e138)) (ex_move rfl e140) rfl rfl
                . intro a w' hF hB hd
                  have e141 : a.eval (.tmp 141) = .bool true := hd 21 (by decide +kernel) (.inr (by decide))
                  have e16 : a.eval (.tmp 16) = .slice (some ⟨u, 0, none⟩) 16384 cp := hF 16 (by decide +kernel)
                  exact doesG_val (wanted_of rfl (yielded_of rfl e141)) (ex_move rfl e16) rfl rfl
                . intro a w' hF hB hd
                  have e141 : a.eval (.tmp 141) = .bool true := hd 21 (by decide +kernel) (.inr (by decide))
                  have e142 : a.eval (.tmp 142) = .slice (some ⟨u, 0, none⟩) 16384 cp := hd 22 (by decide +kernel) (.inr (by decide))
                  exact doesG_val (wanted_of rfl (yielded_of rfl e141)) (ex_slice_lh (k := 5120) (h := 5632) (cap := cp) (n := 16384) (ad := ⟨u, 0, none⟩) rfl e142 rfl rfl (by decide) (by have := HCP.out; omega) (by have := HCP.out; omega)) rfl rfl
                . intro a w' hF hB hd
                  have e141 : a.eval (.tmp 141) = .bool true := hd 21 (by decide +kernel) (.inr (by decide))
                  have e143 : a.eval (.tmp 143) = .slice (some ⟨u, 5120, none⟩) 512 (cp - 5120) := hd 23 (by decide +kernel) (.inr (by decide))
                  exact doesG_call (wanted_of rfl (yielded_of rfl e141)) (ex_call (vs := #[.slice (some ⟨u, 5120, none⟩) 512 (cp - 5120)]) rfl (by simp only [List.map_toArray, List.map_cons, List.map_nil, e143]) (by go_simp)) rfl ((HNS.out w' _ (W11.out.on hB) (RDP5120.out w' hB)).mono fun e w3 hh => ⟨_, hh.1, rfl, hh.2⟩)
                . intro a w' hF hB hd
                  have e141 : a.eval (.tmp 141) = .bool true := hd 21 (by decide +kernel) (.inr (by decide))
                  have e14 : a.eval (.tmp 14) = .pointer (some ⟨rQ, 0, none⟩) := hF 14 (by decide +kernel)
                  exact doesG_val (wanted_of rfl (yielded_of rfl e141)) (ex_fieldAddr rfl e14 (by go_simp)) rfl rfl
                . intro a w' hF hB hd
                  have e141 : a.eval (.tmp 141) = .bool true := hd 21 (by decide +kernel) (.inr (by decide))
                  have e145 : a.eval (.tmp 145) = .pointer (some ⟨rQ, 1, none⟩) := hd 25 (by decide +kernel) (.inr (by decide))
                  exact doesG_val (wanted_of rfl (yielded_of rfl e141)) (ex_load_part 47 (.tmp 145) rfl rQ 1 e145 SM3 _ (SRQ.out w' hB) Tryz.underlying47 rfl (by rw [SM332.out]; exact infoS)) rfl rfl
                . intro a w' hF hB hd
                  have e141 : a.eval (.tmp 141) = .bool true := hd 21 (by decide +kernel) (.inr (by decide))
                  have e144 : a.eval (.tmp 144) = .agg Q3.toArray := hd 24 (by decide +kernel) (.inr (by decide))
                  have e146 : a.eval (.tmp 146) = .agg SM3.toArray := hd 26 (by decide +kernel) (.inr (by decide))
                  exact doesG_val (wanted_of rfl (yielded_of rfl e141)) (ex_binOp rfl e144 e146 (run_eqGuard_agg (P := Tryz.prog) (w := w') .neq 47 _ _ _ _ eqTypeS) (NEQ3.out w')) rfl rfl
                . intro a w' hF hB hd
                  have e138 : a.eval (.tmp 138) = .bool false := hd 18 (by decide +kernel) (.inr (by decide))
                  have e141 : a.eval (.tmp 141) = .bool true := hd 21 (by decide +kernel) (.inr (by decide))
                  have e147 : a.eval (.tmp 147) = .bool false := hd 27 (by decide +kernel) (.inr (by decide))
                  exact doesG_val (wanted_of rfl (yielded_of rfl e138)) (ex_pick rfl e141 (by simp [e147])) rfl rfl
              . intro vs w12 hB hv hap
                have e137 : vs 17 = .bool false := hv 17 (by decide) (by decide)
                have e138 : vs 18 = .bool false := hv 18 (by decide) (by decide)
                have e148 : vs 28 = .bool false := hv 28 (by decide) (by decide)
                simp only [List.take_succ_cons, List.take_zero, List.drop_succ_cons, List.drop_zero, putOps, Act.put, List.setIfInBounds_toArray, List.set_cons_zero, List.set_cons_succ, e137, e138, e148]
                have K12 := Lib.hid (K11.out.below hB K11.out.lt); have G12 := Lib.hid (G11.out.below hB G11.out.lt); have X12 := Lib.hid (X11.out.below hB X11.out.lt); have P12 := Lib.hid (P11.out.below hB P11.out.lt); have Q12 := Lib.hid (Q11.out.below hB Q11.out.lt); have O12 := Lib.hid (O11.out.below hB); have W12 := Lib.hid (W11.out.on hB); obtain ⟨A12, l', i', n'⟩ := L11.out.own2 hB; have L12 := Lib.hid l'; have MK12 := Lib.hid (i' _ MK11.out); have MG12 := Lib.hid (i' _ MG11.out); have MX12 := Lib.hid (i' _ MX11.out); have MP12 := Lib.hid (i' _ MP11.out); have MQ12 := Lib.hid (i' _ MQ11.out); have MO12 := Lib.hid (fun h g e => (MO11.out h g e).imp_right (i' g)); clear hv hap e137 e138 e148 hB l' i' n'
                generalize vs 0 = z0
                generalize vs 1 = z1
                generalize vs 2 = z2
                generalize vs 3 = z3
                generalize vs 4 = z4
                generalize vs 5 = z5
                generalize vs 6 = z6
                generalize vs 7 = z7
                generalize vs 8 = z8
                generalize vs 9 = z9
                generalize vs 10 = z10
                generalize vs 11 = z11
                generalize vs 12 = z12
                generalize vs 13 = z13
                generalize vs 14 = z14
                generalize vs 15 = z15
                generalize vs 16 = z16
                generalize vs 19 = z19
                generalize vs 20 = z20
                generalize vs 21 = z21
                generalize vs 22 = z22
                generalize vs 23 = z23
                generalize vs 24 = z24
                generalize vs 25 = z25
                generalize vs 26 = z26
                generalize vs 27 = z27
                have OC := Lib.hid (show Rd w12 (.slice (some ⟨u, 0, none⟩) 4200 cp) CUT by rw [HCUT.out]; exact O12.out.take 4200 (by rw [HAEl.out]; decide))
                have MOC := Lib.hid (fun (_ : 0 < CUT.length) g (e : (Value.slice (some ⟨u, 0, none⟩) 4200 cp).ownBlock = some g) => MO12.out (by rw [HAEl.out]; decide) g e)
                go_upto_region 28 with (first
                  | ((with_reducible show wpList _ _ _ (Oper.mk (some 152) (.slice _ _ _ _ _) _ _ _ _ :: _) _ _); refine wpList_wanted rfl (.slice (some ⟨u, 0, none⟩) 4200 cp) (HCS.out _ _ _ rfl rfl) ?_)
                  | (go_at_call 23; (with_reducible refine (HLD.out w12 s d _ (.slice (some ⟨u, 0, none⟩) 4200 cp) L12.out OC.out MOC.out).mono ?_); rintro e w13 ⟨rfl, ll, kk⟩; have L13 := Lib.hid ll; have K13 := Lib.hid (K12.out.kept kk (.inr MK12.out)); have MK13 := MK12; have G13 := Lib.hid (G12.out.kept kk (.inr MG12.out)); have MG13 := MG12; have X13 := Lib.hid (X12.out.kept kk (.inr MX12.out)); have MX13 := MX12; have P13 := Lib.hid (P12.out.kept kk (.inr MP12.out)); have MP13 := MP12; have Q13 := Lib.hid (Q12.out.kept kk (.inr MQ12.out)); have MQ13 := MQ12; have O13 := Lib.hid (O12.out.kept0 kk MO12.out); have MO13 := MO12; have W13 := Lib.hid (kk.below W12.out W12.out.size); clear kk ll)
                  | ((with_reducible show wpList _ _ _ (Oper.mk (some 156) (.load _ (.tmp 10)) _ _ _ _ :: _) _ _); refine wpList_load_wanted rfl 49 (.tmp 10) rfl rX 0 rfl RC _ X13.out.range Tryz.underlying49 rfl (by rw [RC33.out]; exact infoRfQ) ?_)
                  | (go_at_call 14; (with_reducible refine (HD2.out w13 s d _ L13.out).mono ?_); rintro e w14 ⟨y, rfl, bb⟩; have K14 := Lib.hid (K13.out.below bb K13.out.lt); have G14 := Lib.hid (G13.out.below bb G13.out.lt); have X14 := Lib.hid (X13.out.below bb X13.out.lt); have P14 := Lib.hid (P13.out.below bb P13.out.lt); have Q14 := Lib.hid (Q13.out.below bb Q13.out.lt); have O14 := Lib.hid (O13.out.below bb); have W14 := Lib.hid (W13.out.on bb); obtain ⟨A14, l', i', n'⟩ := L13.out.own2 bb; have L14 := Lib.hid l'; have MK14 := Lib.hid (i' _ MK13.out); have MG14 := Lib.hid (i' _ MG13.out); have MX14 := Lib.hid (i' _ MX13.out); have MP14 := Lib.hid (i' _ MP13.out); have MQ14 := Lib.hid (i' _ MQ13.out); have MO14 := Lib.hid (fun h g e => (MO13.out h g e).imp_right (i' g)); clear bb l' i' n')
                  | ((with_reducible show wpList _ _ _ (Oper.mk (some 162) (.load _ (.tmp 12)) _ _ _ _ :: _) _ _); refine wpList_load_wanted rfl 49 (.tmp 12) rfl rP 0 rfl PC _ P14.out.range Tryz.underlying49 rfl (by rw [PC33.out]; exact infoRfQ) ?_)
                  | (go_at_call 16; (with_reducible refine (HP2.out w14 s d _ L14.out).mono ?_); rintro e w15 ⟨y, rfl, bb⟩; have K15 := Lib.hid (K14.out.below bb K14.out.lt); have G15 := Lib.hid (G14.out.below bb G14.out.lt); have X15 := Lib.hid (X14.out.below bb X14.out.lt); have P15 := Lib.hid (P14.out.below bb P14.out.lt); have Q15 := Lib.hid (Q14.out.below bb Q14.out.lt); have O15 := Lib.hid (O14.out.below bb); have W15 := Lib.hid (W14.out.on bb); obtain ⟨A15, l', i', n'⟩ := L14.out.own2 bb; have L15 := Lib.hid l'; have MK15 := Lib.hid (i' _ MK14.out); have MG15 := Lib.hid (i' _ MG14.out); have MX15 := Lib.hid (i' _ MX14.out); have MP15 := Lib.hid (i' _ MP14.out); have MQ15 := Lib.hid (i' _ MQ14.out); have MO15 := Lib.hid (fun h g e => (MO14.out h g e).imp_right (i' g)); clear bb l' i' n'))
                have RDP4096 := Lib.hid (fun w' (hB : Below w15.heap.size w15 w') => (show Rd w' (.slice (some ⟨u, 4096, none⟩) 512 (cp - 4096)) P0 by rw [HP0.out]; have q := ((O15.out.below hB).piece 4096 512 (cp - 4096) (by rw [HAEl.out]; decide) (by have := HCP.out; omega)); rw [addr_at0] at q; exact q))
                refine wp_region_g (by kernel_rfl) 20 (by decide) (by kernel_rfl) (by kernel_rfl) (by kernel_rfl) w15.heap.size (Nat.le_refl _) [.val (.int .i64 40), .val (.bool true), .val (.bool true), .val (.int .i64 40), .val (.bool true), .val (.bool true), .val (.bool true), .val (.int .i64 0), .val (.bool false), .val (.bool false), .val (.agg KC.toArray), .val (.slice (some ⟨u, 0, none⟩) 16384 cp), .val (.slice (some ⟨u, 4096, none⟩) 512 (cp - 4096)), .val (.agg RC.toArray), .val (.bool true), .val (.bool true), .val (.bool true), .val (.bool true), .val (.bool true), .val (.bool true)] (fun _ => 20) ?_ ?_
                . refine ⟨?_, ?_, ?_, ?_, ?_, ?_, ?_, ?_, ?_, ?_, ?_, ?_, ?_, ?_, ?_, ?_, ?_, ?_, ?_, ?_, trivial⟩
                  . intro a w' hF hB hd
                    have e26 : a.eval (.tmp 26) = .int .i64 40 := hF 26 (by decide +kernel)
                    exact doesG_val rfl (ex_move rfl e26) rfl rfl
                  . intro a w' hF hB hd
                    have e166 : a.eval (.tmp 166) = .int .i64 40 := hd 0 (by decide +kernel) (.inr (by decide))
                    exact doesG_val rfl (ex_binOp rfl e166 rfl (by go_simp) (by go_simp)) rfl rfl
                  . intro a w' hF hB hd
                    have e167 : a.eval (.tmp 167) = .bool true := hd 1 (by decide +kernel) (.inr (by decide))
                    exact doesG_val rfl (ex_move rfl e167) rfl rfl
                  . intro a w' hF hB hd
                    have e168 : a.eval (.tmp 168) = .bool true := hd 2 (by decide +kernel) (.inr (by decide))
                    have e28 : a.eval (.tmp 28) = .int .i64 40 := hF 28 (by decide +kernel)
                    exact doesG_val (wanted_of rfl (yielded_of rfl e168)) (ex_move rfl e28) rfl rfl
                  . intro a w' hF hB hd
                    have e168 : a.eval (.tmp 168) = .bool true := hd 2 (by decide +kernel) (.inr (by decide))
                    have e169 : a.eval (.tmp 169) = .int .i64 40 := hd 3 (by decide +kernel) (.inr (by decide))
                    exact doesG_val (wanted_of rfl (yielded_of rfl e168)) (ex_binOp rfl e169 rfl (by go_simp) (by go_simp)) rfl rfl
                  . intro a w' hF hB hd
                    have e168 : a.eval (.tmp 168) = .bool true := hd 2 (by decide +kernel) (.inr (by decide))
                    have e170 : a.eval (.tmp 170) = .bool true := hd 4 (by decide +kernel) (.inr (by decide))
                    exact doesG_val rfl (ex_pick rfl e168 (by simp [e170])) rfl rfl
                  . intro a w' hF hB hd
                    have e171 : a.eval (.tmp 171) = .bool true := hd 5 (by decide +kernel) (.inr (by decide))
                    exact doesG_val rfl (ex_move rfl e171) rfl rfl
                  . intro a w' hF hB hd
                    have e172 : a.eval (.tmp 172) = .bool true := hd 6 (by decide +kernel) (.inr (by decide))
                    have e20 : a.eval (.tmp 20) = .int .i64 0 := hF 20 (by decide +kernel)
                    exact doesG_val (wanted_of rfl (yielded_of rfl e172)) (ex_move rfl e20) rfl rfl
                  . intro a w' hF hB hd
                    have e172 : a.eval (.tmp 172) = .bool true := hd 6 (by decide +kernel) (.inr (by decide))
                    have e173 : a.eval (.tmp 173) = .int .i64 0 := hd 7 (by decide +kernel) (.inr (by decide))
                    exact doesG_val (wanted_of rfl (yielded_of rfl e172)) (ex_binOp rfl e173 rfl (by go_simp) (by go_simp)) rfl rfl
                  . intro a w' hF hB hd
                    have e172 : a.eval (.tmp 172) = .bool true := hd 6 (by decide +kernel) (.inr (by decide))
                    have e174 : a.eval (.tmp 174) = .bool false := hd 8 (by decide +kernel) (.inr (by decide))
                    exact doesG_val (wanted_of rfl (yielded_of rfl e172)) (ex_move rfl e174) rfl rfl
                  . intro a w' hF hB hd
                    have e175 : a.eval (.tmp 175) = .bool false := hd 9 (by decide +kernel) (.inr (by decide))
                    have e3 : a.eval (.tmp 3) = .pointer (some ⟨w.heap.size, 0, none⟩) := hF 3 (by decide +kernel)
                    exact doesG_val (wanted_of rfl (yielded_of rfl e175)) (ex_load_part 23 (.tmp 3) rfl w.heap.size 0 e3 KC _ ((K15.out.below hB K15.out.lt).range) Tryz.underlying23 rfl (by rw [KC32.out]; exact infoKeyP)) rfl rfl
                  . intro a w' hF hB hd
                    have e175 : a.eval (.tmp 175) = .bool false := hd 9 (by decide +kernel) (.inr (by decide))
                    have e16 : a.eval (.tmp 16) = .slice (some ⟨u, 0, none⟩) 16384 cp := hF 16 (by decide +kernel)
                    exact doesG_val (wanted_of rfl (yielded_of rfl e175)) (ex_move rfl e16) rfl rfl
                  . intro a w' hF hB hd
                    have e175 : a.eval (.tmp 175) = .bool false := hd 9 (by decide +kernel) (.inr (by decide))
                    have e177 : a.eval (.tmp 177) = .slice (some ⟨u, 0, none⟩) 16384 cp := hd 11 (by decide +kernel) (.inr (by decide))
                    exact doesG_val (wanted_of rfl (yielded_of rfl e175)) (ex_slice_lh (k := 4096) (h := 4608) (cap := cp) (n := 16384) (ad := ⟨u, 0, none⟩) rfl e177 rfl rfl (by decide) (by have := HCP.out; omega) (by have := HCP.out; omega)) rfl rfl
                  . intro a w' hF hB hd
                    have e175 : a.eval (.tmp 175) = .bool false := hd 9 (by decide +kernel) (.inr (by decide))
                    have e10 : a.eval (.tmp 10) = .pointer (some ⟨rX, 0, none⟩) := hF 10 (by decide +kernel)
                    exact doesG_val (wanted_of rfl (yielded_of rfl e175)) (ex_load_part 49 (.tmp 10) rfl rX 0 e10 RC _ ((X15.out.below hB X15.out.lt).range) Tryz.underlying49 rfl (by rw [RC33.out]; exact infoRfQ)) rfl rfl
                  . intro a w' hF hB hd
                    have e175 : a.eval (.tmp 175) = .bool false := hd 9 (by decide +kernel) (.inr (by decide))
                    have e176 : a.eval (.tmp 176) = .agg KC.toArray := hd 10 (by decide +kernel) (.inr (by decide))
                    have e178 : a.eval (.tmp 178) = .slice (some ⟨u, 4096, none⟩) 512 (cp - 4096) := hd 12 (by decide +kernel) (.inr (by decide))
                    have e179 : a.eval (.tmp 179) = .agg RC.toArray := hd 13 (by decide +kernel) (.inr (by decide))
                    exact doesG_call (wanted_of rfl (yielded_of rfl e175)) (ex_call (vs := #[.agg KC.toArray, .slice (some ⟨u, 4096, none⟩) 512 (cp - 4096), .agg RC.toArray]) rfl (by simp only [List.map_toArray, List.map_cons, List.map_nil, e176, e178, e179]) (by go_simp)) rfl ((HSM.out w' _ (W15.out.on hB) (RDP4096.out w' hB)).mono fun e w3 hh => ⟨_, hh.1, rfl, hh.2⟩)
                  . intro a w' hF hB hd
                    have e172 : a.eval (.tmp 172) = .bool true := hd 6 (by decide +kernel) (.inr (by decide))
                    have e175 : a.eval (.tmp 175) = .bool false := hd 9 (by decide +kernel) (.inr (by decide))
                    have e180 : a.eval (.tmp 180) = .bool true := hd 14 (by decide +kernel) (.inr (by decide))
                    exact doesG_val (wanted_of rfl (yielded_of rfl e172)) (ex_pick rfl e175 (by simp [e180])) rfl rfl
                  . intro a w' hF hB hd
                    have e172 : a.eval (.tmp 172) = .bool true := hd 6 (by decide +kernel) (.inr (by decide))
                    have e181 : a.eval (.tmp 181) = .bool true := hd 15 (by decide +kernel) (.inr (by decide))
                    exact doesG_val rfl (ex_pick rfl e172 (by simp [e181])) rfl rfl
                  . intro a w' hF hB hd
                    have e182 : a.eval (.tmp 182) = .bool true := hd 16 (by decide +kernel) (.inr (by decide))
                    exact doesG_val rfl (ex_move rfl e182) rfl rfl
                  . intro a w' hF hB hd
                    have e183 : a.eval (.tmp 183) = .bool true := hd 17 (by decide +kernel) (.inr (by decide))
                    exact doesG_call (wanted_of rfl (yielded_of rfl e183)) (ex_call (vs := #[]) rfl (by simp only [List.map_toArray, List.map_nil]) (by go_simp)) rfl ((HAW.out w' (W15.out.on hB)).mono fun e w3 hh => ⟨_, hh.1, rfl, hh.2⟩)
                  . intro a w' hF hB hd
                    have e183 : a.eval (.tmp 183) = .bool true := hd 17 (by decide +kernel) (.inr (by decide))
                    have e184 : a.eval (.tmp 184) = .bool true := hd 18 (by decide +kernel) (.inr (by decide))
                    exact doesG_val rfl (ex_pick rfl e183 (by simp [e184])) rfl rfl
                . intro vs w16 hB hv hap
                  have e185 : vs 19 = .bool true := hv 19 (by decide) (by decide)
                  simp only [List.take_succ_cons, List.take_zero, List.drop_succ_cons, List.drop_zero, putOps, Act.put, List.setIfInBounds_toArray, List.set_cons_zero, List.set_cons_succ, e185]
                  have W99 := Lib.hid (W15.out.on hB)
                  clear hv hap e185 hB
                  generalize vs 0 = y0
                  generalize vs 1 = y1
                  generalize vs 2 = y2
                  generalize vs 3 = y3
                  generalize vs 4 = y4
                  generalize vs 5 = y5
                  generalize vs 6 = y6
                  generalize vs 7 = y7
                  generalize vs 8 = y8
                  generalize vs 9 = y9
                  generalize vs 10 = y10
                  generalize vs 11 = y11
                  generalize vs 12 = y12
                  generalize vs 13 = y13
                  generalize vs 14 = y14
                  generalize vs 15 = y15
                  generalize vs 16 = y16
                  generalize vs 17 = y17
                  generalize vs 18 = y18
                  go_wp2_with fail
                  go_ret
                  exact ⟨rfl, W99.out⟩
set_option maxRecDepth 100000 in
theorem reads (os : Os) {H : Type} (enc : TypeId × Value -> H) : ∃ places, DataW.whole enc Tryz.prog ((World.doorLaid Tryz.prog 400 os).forCall (fun _ _ => 0) ⟨#[], #[.agg (row8 (List.replicate 32 0)).toArray, .agg (row8 (List.replicate 512 0)).toArray, .agg (rowI .u16 (List.replicate 2 0)).toArray], []⟩).memory Tryz.f6.params.toList Rows.spaceTurnedSpec.vars false (#[.agg (row8 (List.replicate 32 0)).toArray, .agg (row8 (List.replicate 512 0)).toArray, .agg (rowI .u16 (List.replicate 2 0)).toArray] : Array Value).toList 8 = some ([lit8 (List.replicate 32 0), lit8 (List.replicate 512 0), litI .u16 (List.replicate 2 0)], [], places) := by
  rw [Tryz.params6]
  exact ⟨[], reads_whole (reads_cons (by kernel_rfl) (reads_row Tryz.underlying69 Tryz.underlying5 cells5 cells69 (bytes_zero 512) (reads_cons (by kernel_rfl) rfl)))⟩
theorem cellTypes69 : Tryz.prog.cellTypes Tryz.prog.depth 69 = some (List.replicate 512 5) := by kernel_rfl
set_option maxRecDepth 100000 in
theorem wok (os : Os) : Input.okWideB Tryz.prog ((World.doorLaid Tryz.prog 400 os).forCall (fun _ _ => 0) ⟨#[], #[.agg (row8 (List.replicate 32 0)).toArray, .agg (row8 (List.replicate 512 0)).toArray, .agg (rowI .u16 (List.replicate 2 0)).toArray], []⟩) 6 ⟨#[], #[.agg (row8 (List.replicate 32 0)).toArray, .agg (row8 (List.replicate 512 0)).toArray, .agg (rowI .u16 (List.replicate 2 0)).toArray], []⟩ = true :=
  okInput Tryz.func6 (by kernel_rfl) (by kernel_rfl) fun j t v ht hv => match j, t, v, ht, hv with
    | 0, t, v, ht, hv => by cases ht; cases hv; exact (by kernel_rfl)
    | 1, t, v, ht, hv => by cases ht; cases hv; exact (okWideB_row Tryz.underlying69 Tryz.underlying5 cells69 cellTypes69 (bytes_zero 512))
    | 2, t, v, ht, hv => by cases ht; cases hv; exact (by kernel_rfl)
    | j + 3, t, v, ht, hv => by rw [Tryz.params6] at ht; cases ht
theorem wsz (os : Os) {H : Type} (enc : TypeId × Value -> H) : (OpenSpec.ofChange Rows.spaceTurnedSpec).bare.sizedB enc Tryz.prog Tryz.f6 false ((World.doorLaid Tryz.prog 400 os).forCall (fun _ _ => 0) ⟨#[], #[.agg (row8 (List.replicate 32 0)).toArray, .agg (row8 (List.replicate 512 0)).toArray, .agg (rowI .u16 (List.replicate 2 0)).toArray], []⟩).memory #[.agg (row8 (List.replicate 32 0)).toArray, .agg (row8 (List.replicate 512 0)).toArray, .agg (rowI .u16 (List.replicate 2 0)).toArray] 8 = true := by
  obtain ⟨places, hx⟩ := reads os enc
  unfold ChangeSpec.sizedB
  rw [show (OpenSpec.ofChange Rows.spaceTurnedSpec).bare.vars = Rows.spaceTurnedSpec.vars from rfl, hx]
  kernel_rfl
set_option linter.unusedVariables false in
set_option maxHeartbeats 1000000 in
set_option maxRecDepth 100000 in
theorem lifted (os : Os) (started : os.Started) (H : Type) (enc : TypeId × Value -> H) (F : Stop.Interp) :
    ReturnsInHanded {} Tryz.checked os 6 .any ((OpenSpec.ofChange Rows.spaceTurnedSpec).preRow enc Tryz.prog Tryz.f6 Rows.spaceTurnedRow.domain false laidXUPs) (((OpenSpec.ofChange Rows.spaceTurnedSpec).at F).post enc Tryz.prog Tryz.f6 false true false false) := by
  obtain ⟨places, hx⟩ := reads os enc
  refine returnsInHanded_of_row (C := Tryz.checked) (s := OpenSpec.ofChange Rows.spaceTurnedSpec) own started (by kernel_rfl) Tryz.func6
    (witness_row_atRef (enc := enc) (C := Tryz.checked) false (World.doorLaid Tryz.prog 400 os) #[.agg (row8 (List.replicate 32 0)).toArray, .agg (row8 (List.replicate 512 0)).toArray, .agg (rowI .u16 (List.replicate 2 0)).toArray] rfl (by kernel_rfl) (by kernel_rfl) (wok os)
      (OpenSpec.preRow_of_cond 8 hx (by kernel_rfl) (fun k hk => by cases hk) (wsz os enc) (doorXUPs_met os _))) ?_
  intro W base args ds gs before hval0 hW _ hcond hsz0 hL _ _
  have hsz : (DataW.weightsEach Tryz.prog (Tryz.f6.params.toList ++ Rows.spaceTurnedSpec.plain.varTypes Tryz.prog) (ds ++ gs)).all (· <= reachBytes) = true := hsz0
  clear hsz0
  have hval : ∀ (j : Nat) t v, Tryz.f6.params[j]? = some t -> args[j]? = some v -> Value.okWide Tryz.prog W .any base t v := hval0
  have hW' := hW
  obtain ⟨p, q, hA0, hV, rfl, _, _⟩ := hW
  have hA : DataW.TrodAll enc Tryz.prog W 0 (fun _ => true) true Tryz.f6.params.toList args.toList ds p := hA0
  rw [Tryz.params6] at hA hval hsz
  obtain ⟨v0, vs0, d0, ds0, p0, q0, hargs, rfl, rfl, g0, r0⟩ := trodAll_cons hA
  obtain ⟨v1, vs1, d1, ds1, p1, q1, rfl, rfl, rfl, g1, r1⟩ := trodAll_cons r0
  obtain ⟨v2, vs2, d2, ds2, p2, q2, rfl, rfl, rfl, g2, r2⟩ := trodAll_cons r1
  obtain ⟨rfl, rfl, rfl⟩ := trodAll_nil r2
  obtain rfl : args = #[v0, v1, v2] := by cases args; simp_all
  obtain ⟨rfl, rfl⟩ := trodVars_none hV
  obtain ⟨l0, h0, rfl, rfl, rfl⟩ := open_row Tryz.underlying23 Tryz.underlying5 cells5 (hval 0 23 v0 rfl rfl) cells23 g0
  obtain ⟨l1, h1, rfl, rfl, rfl⟩ := open_row Tryz.underlying69 Tryz.underlying5 cells5 (hval 1 69 v1 rfl rfl) cells69 g1
  obtain ⟨l2, h2, rfl, rfl, rfl⟩ := open_arr Tryz.underlying71 Tryz.underlying70 cells70 (hval 2 71 v2 rfl rfl) cells71 g2
  clear hA0 hval0
  have hlt := hW'.lt
  refine (walk W (tabsXUPs_of_laid hL) l0 h0 l1 h1 l2 h2).mono fun e W' ⟨he, hb⟩ => ?_
  subst he
  have hargs : DataW.TrodAll enc Tryz.prog W' 0 (fun b => decide (b < W.heap.size)) true _ _ _ _ := (trodAll_cons_mk (shut_row Tryz.underlying23 Tryz.underlying5 cells5 cells23 h0) (trodAll_cons_mk (shut_row Tryz.underlying69 Tryz.underlying5 cells5 cells69 h1) (trodAll_cons_mk (shut_arr Tryz.underlying71 Tryz.underlying70 cells70 cells71 h2) trodAll_mk0)))
  simp only [List.append_nil] at hW' hargs
  exact ⟨_, rfl, post_law hW' (trodAll_cons_mk (shut_bool Tryz.underlying4 _) trodAll_mk0) hargs rfl hb⟩
theorem over : Rows.spaceTurnedRow.holds Tryz.pinned (OpenSpec.ofChange Rows.spaceTurnedSpec) :=
  OpenClaim.holds_of_cond 6 Tryz.f6 rfl rfl rfl rfl rfl rfl rfl ⟨rfl, rfl, rfl, rfl, rfl⟩ rfl rfl rfl rfl rfl (by kernel_rfl) Tryz.func6 (by kernel_rfl)
    (of_decide_eq_true (by kernel_rfl)) (by unfold Func.isWrapper; first | (rw [if_pos (by decide +kernel)]; kernel_rfl) | (rw [if_neg (by decide +kernel)]; exact ⟨rfl, rfl⟩))
    (fun os started H enc _ F => by rw [OpenClaim.pre_eq_preRow]; exact lifted os started H enc F)

/-- The given statement. -/
theorem proved : Rows.SpaceTurnedCardSaid :=
  Claim7.holds_tied_plain_at .later [] _ _ _ _
    over (fun _ h => by cases h) (by kernel_rfl) (fun _ h => by cases h) spaceTurned_row_tie rfl ⟨rfl, rfl⟩ (by kernel_rfl) rfl
    (fun f fn hf hfn => by
      obtain rfl : f = 6 := Option.some.inj ((show Tryz.prog.funcNamed "reliquary/reliquarylaw16.SpaceTurned" = some 6 by kernel_rfl).symm.trans hf) |>.symm
      obtain rfl : fn = Tryz.f6 := (Option.some.inj (Tryz.func6.symm.trans hfn)).symm
      exact ⟨by kernel_rfl, fun j t ht => by
        rw [Tryz.params6] at ht
        have hm : t ∈ [23, 69, 71] := by simpa using Array.mem_of_getElem? ht
        have hall : ([23, 69, 71].all fun u => !Tryz.prog.wantsStandIn u) = true := by kernel_rfl
        exact (show Tryz.prog.wantsStandIn t = false by simpa using List.all_eq_true.1 hall t hm)⟩)
    (by kernel_rfl)
end Go.Proofs.YtjalknpeecgllaaGreatDoor.spaceTurned
