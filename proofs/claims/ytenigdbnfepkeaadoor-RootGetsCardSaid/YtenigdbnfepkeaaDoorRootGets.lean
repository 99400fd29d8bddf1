/- RootGets: any bytes are, with any key, the root that the document says, or it is told why not; what is told is the asker's own; and the law's closed case holds. No condition. -/
import Derived.Test.YtenigdbnfepkeaaDoorRows
import Derived.Test.YtenigdbnfepkeaaDoorRtAwake
import Derived.Test.YtenigdbnfepkeaaDoorRtSm
import Derived.Test.YtenigdbnfepkeaaDoorShaD
import Derived.Test.YtenigdbnfepkeaaDoorTie
import Derived.Test.YtenigdbnfepkeaaDoorCards
import Derived.SevenTiedAt
import Derived.Test.YtenigdbnfepkeaaDoorMem
import Derived.WalkKit
import Derived.ProofKit
import Derived.OpenShut
import Derived.SizedLaws
import Derived.Carry
import Derived.Deep.DeepHandedRow
import Derived.Deep.DeepWitnessRowRef
namespace Go.Proofs.YtenigdbnfepkeaaDoor.rootGets
open Go.ChangeShapes Go.WideShapes Go.ChangeAt Go.RowKit
open RT
theorem pcs_set : ∀ (ps : List Pg), (∀ p ∈ ps, Pok p) → ∀ (k : Nat) (hk : k < ps.length) (a : Nat), (pcs ps).set (k * 33) (.int .u32 (a : Int)) = pcs (ps.set k ⟨a, ps[k].sum⟩) := by
  intro ps
  induction ps with
  | nil => intro _ k hk; simp at hk
  | cons p r ih =>
    intro h k hk a
    have hp := pc_len (h p (by simp))
    have e : ∀ (p : Pg) (r : List Pg), pcs (p :: r) = pc p ++ pcs r := fun p r => by unfold pcs; rw [List.map_cons, List.flatten_cons]
    cases k with
    | zero =>
      rw [e, List.set_cons_zero, e, Nat.zero_mul]
      rfl
    | succ k =>
      rw [e, List.set_cons_succ, e, List.set_append_right _ _ (by omega), show (k + 1) * 33 - (pc p).length = k * 33 by omega]
      rw [ih (fun q hq => h q (by simp [hq])) k (by simpa using hk) a]
      rfl
theorem own : ownKnob Tryd.prog.godebug = none := by kernel_rfl
theorem cells28 : Tryd.prog.cellsOf 28 = 32 := by kernel_rfl
theorem cells5 : Tryd.prog.cellsOf 5 = 1 := by kernel_rfl
set_option linter.unusedVariables false in
set_option maxRecDepth 100000 in
set_option maxHeartbeats 4000000 in
theorem walk (w : World) (ht : Tab w ∧ TabP w) (v0 : Value) (l0 : List Nat) (h0 : Rd w v0 l0) (l1 : List Nat) (h1 : Bytes 32 l1) :
    Calls Tryd.prog 4 #[v0, .agg (row8 l1).toArray] w fun e w' => e = .returned (.bool true) ∧ Below w.heap.size w w' := by
  obtain ⟨va, vc, rfl, _⟩ := h0.shape
  have HT := Lib.hid ht.2
  have HTA := Lib.hid ht.1
  obtain ⟨Z0, hZ0⟩ : ∃ L, L = RT.rtc RT.zero (.slice none 0 0) := ⟨_, rfl⟩
  have hz : ∀ w, (zeroValue 27).run Tryd.prog w = .ok (.agg Z0.toArray) w := by rw [hZ0]; exact zeroRt
  have Z68 := Lib.hid (show Z0.length = 68 by rw [hZ0]; exact RT.rtc_len RT.zero_ok _)
  have OKR := got_ok h0.byte l1
  have N9 := got_len9 l0 l1
  have HP := Lib.hid (fun W v hv (hW : TabP W) => pget_any l0 l1 h1 v W hv hW)
  have HR := Lib.hid (fun W v hv (hW : Tab W) => rrget_any l0 l1 h1 v W hv hW)
  have HSM := Lib.hid (fun W u v hu hv => sameYes (rrsame_any (got l0 l1) (got l0 l1) OKR OKR u v W hu hv (by omega)))
  have XL := Lib.hid (fun u => rtc_len OKR u)
  have XP := Lib.hid (fun u => rtc_pages OKR u)
  obtain ⟨XR, hXR⟩ : ∃ X, X = rtc (got l0 l1) := ⟨_, rfl⟩
  have X1c := Lib.hid (fun ao n c => show ((XR (.slice ao n c)).toArray.all (·.oneCell')) = true by rw [hXR]; exact rt_one _ ao n c)
  obtain ⟨KC, hKC⟩ : ∃ X, X = row8 l1 := ⟨_, rfl⟩
  have K32 := Lib.hid (show KC.length = 32 by rw [hKC, row8_len, h1.1])
  obtain ⟨ER, hER⟩ : ∃ X, X = gerr l0 l1 := ⟨_, rfl⟩
  obtain ⟨ps0, hps⟩ : ∃ X, X = (got l0 l1).pages := ⟨_, rfl⟩
  have PSOK := Lib.hid (show ∀ p ∈ ps0, Pok p by rw [hps]; exact OKR.pages)
  rw [← hXR] at HP HR HSM XL XP
  rw [← hKC] at HP HR
  rw [← hKC]
  rw [← hER] at HP HR
  rw [← hps] at HP HR HSM N9
  obtain ⟨n, hn⟩ : ∃ n, n = ps0.length := ⟨_, rfl⟩
  have HN := Lib.hid hn
  rw [← hn] at HP HR HSM N9
  obtain ⟨CS, hCS⟩ : ∃ n, n = pcs ps0 := ⟨_, rfl⟩
  have HCS := Lib.hid hCS
  rw [← hCS] at HP HR HSM
  have HV0 := Lib.hid h0
  obtain ⟨bl, hbl⟩ : ∃ n, n = l0.length := ⟨_, rfl⟩
  have HBL := Lib.hid hbl
  have HFI := Lib.hid (show bl ≤ 140737488355328 by rw [hbl]; exact h0.fits)
  rw [← hbl] at HV0 ⊢
  obtain ⟨S, hS⟩ : ∃ S : ByteArray, S = bstr l0 := ⟨_, rfl⟩
  have HS := Lib.hid hS
  have HE := Lib.hid (fun W => (show (binOp .eql 9 (.string S) (.string S)).run Tryd.prog W = .ok (.bool true) W by rw [run_eql_str, decide_eq_true rfl]))
  have N9 := Lib.hid N9
  obtain ⟨w1, hw1⟩ : ∃ x, x = w.alloc (.cells KC.toArray 28) := ⟨_, rfl⟩
  have W1 := Lib.hid (show Below w.heap.size w w1 by rw [hw1]; exact (Below.refl w.heap.size w).alloc (Nat.le_refl _) _)
  have K1 := Lib.hid (show Blk w1 w.heap.size 28 KC by rw [hw1]; exact Blk.new w 28 KC _ rfl)
  have HE1 := Lib.hid (own_empty w1 (b := w1.heap.size) rfl (base := w1.heap.size) (Nat.le_refl _))
  have WE := Lib.hid ((Below.refl w1.heap.size w1).alloc (Nat.le_refl _) (.cells #[] 5))
  clear hZ0 hXR hKC hER hps hn hCS hbl hS ht h0 h1 OKR
  go_enter Tryd.func4, Tryd.ntmps4
  go_upto_region 1 with fail
  rw [← hw1]
  clear hw1
  go_upto_region 2 with (refine wpList_app rfl (.tmp 13) (.tmp 14) rfl w1.heap.size (.slice (some ⟨w1.heap.size, 0, none⟩) 0 0) (.slice va bl vc) [] l0 rfl rfl HE1.out ((HV0.out.below W1.out).below WE.out) (by rw [← HBL.out, List.length_nil, Nat.zero_add]; exact HFI.out) WE.out.size ?_; intro v2 w2 o2 g2 k2; rw [List.nil_append] at o2; have I2 := Lib.hid o2.rd; have IOW := Lib.hid (fun g hg => (o2.from g hg).2); have hb2 := (show Below w1.heap.size w1 w2 from WE.out.grown g2 WE.out.size (fun g hg => by have e : w1.heap.size = g := Option.some.inj hg; omega)); have W2 := Lib.hid (W1.out.on hb2); have K2 := Lib.hid (K1.out.below hb2 K1.out.lt); have V2 := Lib.hid (HV0.out.below W2.out); clear o2 g2 k2 hb2)
  obtain ⟨ia, ic, hsh, _⟩ := I2.out.shape
  rw [← HBL.out] at hsh
  subst hsh
  have IS := Lib.hid (show w.heap.size < w2.heap.size from K2.out.lt)
  clear W1 K1 HE1 WE
  go_upto_region 3 with (first
    | ((with_reducible show wpList _ _ _ (Oper.mk _ (.load _ (.tmp 3)) _ _ _ _ :: _) _ _); refine wpList_load_mid rfl 28 (.tmp 3) rfl w.heap.size 0 rfl KC _ K2.out.range Tryd.underlying28 rfl (by rw [K32.out]; exact infoKeyA) ?_)
    | (go_at_call 15; (with_reducible refine (HP.out _ _ I2.out (HT.out.below W2.out)).mono ?_); rintro e w3 ⟨cu, rfl, cu2, b9⟩; have W3 := Lib.hid (W2.out.on b9); have K3 := Lib.hid (K2.out.below b9 K2.out.lt); have V3 := Lib.hid (V2.out.below b9); have I3 := Lib.hid (I2.out.below b9); obtain ⟨ca, cq, rfl, _⟩ := (owned_rd cu2).shape; have P3 := Lib.hid (owned_rd cu2); have O3 := Lib.hid cu2; have OL3 := Lib.hid (fun g hg => World.ownsRow.lt cu2 g hg); clear cu2; clear b9)
    | ((with_reducible show wpList _ _ _ (Oper.mk _ (.store _ (.tmp 6) (.tmp 20)) _ _ _ _ :: _) _ _); refine wpList_store_blk rfl 27 (.tmp 6) (.tmp 20) rfl w3.heap.size 0 (XR (.slice ca n cq)) rfl rfl 27 Z0 (Blk.new w3 27 Z0 _ rfl) (by have := XL.out (.slice ca n cq); have := Z68.out; omega) (by rw [XL.out (.slice ca n cq)]; exact infoRtC) (X1c.out _ _ _) ?_; intro w4 b' g'; rw [splice_all _ _ (by have := XL.out (.slice ca n cq); have := Z68.out; omega)] at b'; have bb := alloc_turn (Below.refl _ _) g'; have W4 := Lib.hid (W3.out.on bb); have K4 := Lib.hid (K3.out.below bb K3.out.lt); have V4 := Lib.hid (V3.out.below bb); have I4 := Lib.hid (I3.out.below bb); have P4 := Lib.hid (P3.out.below bb); have O4 := Lib.hid (ownsT_on O3.out bb); have C4 := Lib.hid b'; clear b' g' bb))
  obtain ⟨cb, hcb⟩ : ∃ x, x = w3.heap.size := ⟨_, rfl⟩
  have CL := Lib.hid (show ∀ g, (Value.slice ca n cq).ownBlock = some g → w2.heap.size ≤ g ∧ g < cb from fun g hg => by rw [hcb]; exact OL3.out g hg)
  have CB4 := Lib.hid (show cb < w4.heap.size by rw [hcb]; exact C4.out.lt)
  rw [← hcb] at C4 ⊢
  clear hcb K2 V2 W3 K3 V3 I3 P3 O3 OL3
  go_upto_region 4 with (first
    | ((with_reducible show wpList _ _ _ (Oper.mk _ (.load _ (.tmp 3)) _ _ _ _ :: _) _ _); refine wpList_load_mid rfl 28 (.tmp 3) rfl w.heap.size 0 rfl KC _ K4.out.range Tryd.underlying28 rfl (by rw [K32.out]; exact infoKeyA) ?_)
    | (go_at_call 16; (with_reducible refine (HR.out _ _ V4.out (HTA.out.below W4.out)).mono ?_); rintro e w5 ⟨du, rfl, du2, b9⟩; have W5 := Lib.hid (W4.out.on b9); have K5 := Lib.hid (K4.out.below b9 K4.out.lt); have V5 := Lib.hid (V4.out.below b9); have I5 := Lib.hid (I4.out.below b9); have P5 := Lib.hid (P4.out.below b9); have O5 := Lib.hid (ownsT_on O4.out b9); have C5 := Lib.hid (C4.out.below b9 C4.out.lt); obtain ⟨da, dq, rfl, _⟩ := (owned_rd du2).shape; have Q5 := Lib.hid (owned_rd du2); have QL := Lib.hid (fun g hg => Nat.lt_of_lt_of_le CB4.out (World.ownsRow.lt du2 g hg).1); clear du2; clear b9)
    | ((with_reducible show wpList _ _ _ (Oper.mk _ (.store _ (.tmp 8) (.tmp 26)) _ _ _ _ :: _) _ _); refine wpList_store_blk rfl 27 (.tmp 8) (.tmp 26) rfl w5.heap.size 0 (XR (.slice da n dq)) rfl rfl 27 Z0 (Blk.new w5 27 Z0 _ rfl) (by have := XL.out (.slice da n dq); have := Z68.out; omega) (by rw [XL.out (.slice da n dq)]; exact infoRtC) (X1c.out _ _ _) ?_; intro w6 b' g'; rw [splice_all _ _ (by have := XL.out (.slice da n dq); have := Z68.out; omega)] at b'; have bb := alloc_turn (Below.refl _ _) g'; have W6 := Lib.hid (W5.out.on bb); have K6 := Lib.hid (K5.out.below bb K5.out.lt); have V6 := Lib.hid (V5.out.below bb); have I6 := Lib.hid (I5.out.below bb); have P6 := Lib.hid (P5.out.below bb); have O6 := Lib.hid (ownsT_on O5.out bb); have C6 := Lib.hid (C5.out.below bb C5.out.lt); have Q6 := Lib.hid (Q5.out.below bb); have D6 := Lib.hid b'; clear b' g' bb))
  obtain ⟨db, hdb⟩ : ∃ x, x = w5.heap.size := ⟨_, rfl⟩
  have DL := Lib.hid (show cb < db by rw [hdb]; exact C5.out.lt)
  rw [← hdb] at D6 ⊢
  clear hdb W4 K4 V4 I4 P4 O4 C4 W5 K5 V5 I5 P5 O5 C5 Q5
  go_upto_region 7 with (first
    | ((with_reducible show wpList _ _ _ (Oper.mk _ (.load _ (.tmp 6)) _ _ _ _ :: _) _ _); refine wpList_load_mid rfl 27 (.tmp 6) rfl cb 0 rfl (XR (.slice ca n cq)) _ C6.out.range Tryd.underlying27 rfl (by rw [XL.out]; exact infoRtC) ?_)
    | ((with_reducible show wpList _ _ _ (Oper.mk _ (.load _ (.tmp 8)) _ _ _ _ :: _) _ _); refine wpList_load_mid rfl 27 (.tmp 8) rfl db 0 rfl (XR (.slice da n dq)) _ D6.out.range Tryd.underlying27 rfl (by rw [XL.out]; exact infoRtC) ?_)
    | (go_at_call 13; (with_reducible refine ((HSM.out _ _ _ P6.out Q6.out)).mono ?_); rintro e w7 ⟨rfl, b9⟩; have W7 := Lib.hid (W6.out.on b9); have K7 := Lib.hid (K6.out.below b9 K6.out.lt); have V7 := Lib.hid (V6.out.below b9); have I7 := Lib.hid (I6.out.below b9); have P7 := Lib.hid (P6.out.below b9); have O7 := Lib.hid (ownsT_on O6.out b9); have C7 := Lib.hid (C6.out.below b9 C6.out.lt); have Q7 := Lib.hid (Q6.out.below b9); have D7 := Lib.hid (D6.out.below b9 D6.out.lt); clear b9))
  clear W6 K6 V6 I6 P6 O6 C6 D6 Q6
  go_loopw [10] (fun i wr => ∃ (k : Nat) (ps : List Pg), k ≤ n ∧ i = .int .i64 (k : Int) ∧ ps.length = n ∧ (∀ p ∈ ps, Pok p) ∧ w7.grownBy wr (Value.slice ca n cq).ownBlock ∧ wr.ownsRow w2.heap.size 45 33 (.slice ca n cq) n (pcs ps)) (fun i _ => n - (intOf i).toNat)
  case atStart => exact ⟨0, ps0, Nat.zero_le _, rfl, HN.out.symm, PSOK.out, World.grownBy.refl _ _, by rw [← HCS.out]; exact O7.out⟩
  case round =>
    obtain ⟨k, ps, hk, rfl, hpl, hpo, hgr, hown⟩ := hrel
    have GR := Lib.hid hgr
    have PL := Lib.hid hpl
    have PO := Lib.hid hpo
    have OW := Lib.hid hown
    have CR := Lib.hid (C7.out.grown hgr (fun e => by have := CL.out _ e.symm; omega))
    have c67 := CR.out.cell 67 _ (XP.out _)
    have WR := Lib.hid (W7.out.grown hgr W7.out.size (fun g e => by have := (CL.out g e).1; have := IS.out; omega))
    clear hpl hpo hgr hown
    by_cases hlt : k < n
    · have hkp : k < ps.length := by rw [PL.out]; exact hlt
      obtain ⟨b0, hb0⟩ : ∃ b0, ca = some ⟨b0, 0, none⟩ := by
        rcases OW.out.2 with ⟨e, q⟩ | ⟨g, c, cur, e, _⟩
        · omega
        · injection e with e1 _ _; exact ⟨g, e1⟩
      subst hb0
      have PK := Lib.hid (PO.out _ (List.getElem_mem hkp))
      have hkl : k * 33 < (pcs ps).length := by rw [pcs_len PO.out, PL.out]; omega
      have ca0 := OW.out.cellAt (k * 33) (by omega)
      have e0 := pcs_get PO.out hkp (i := 0) (by decide)
      rw [Nat.add_zero] at e0
      rw [e0] at ca0
      have c0 : wr.cell? ⟨b0, k * 33, none⟩ = some (.int .u32 (ps[k].at_ : Int)) := ca0
      clear ca0
      have f0 := OW.out.frozenAt (k * 33)
      obtain ⟨at0, hat⟩ : ∃ x, x = ps[k].at_ := ⟨_, rfl⟩
      have HAT := Lib.hid (show at0 < 4294967296 by rw [hat]; exact PK.out.1)
      rw [← hat] at c0
      obtain ⟨at1, hat1⟩ : ∃ x : Nat, x = (at0 + 1) % 4294967296 := ⟨_, rfl⟩
      have aw : IntKind.u32.wrap ((at0 : Int) + 1) = (at1 : Int) := by rw [hat1, IntKind.wrap_u32]; omega
      have A1L := Lib.hid (show at1 < 4294967296 by omega)
      have hklt : (k : Int) < (n : Int) := by omega
      have hk0 : (0 : Int) ≤ (k : Int) := by omega
      have ST := Lib.hid (OW.out.stored (k * 33) (.int .u32 (at1 : Int)))
      have PS := Lib.hid (pcs_set ps PO.out k hkp at1)
      have SUM := Lib.hid PK.out.2
      clear e0 hat hat1
      go_wp2_with fail
      refine ⟨⟨k + 1, ps.set k ⟨at1, ps[k].sum⟩, by omega, by go_num, by rw [List.length_set]; exact PL.out, fun p hp => ?_, ?_, by rw [← PS.out]; exact ST.out.1⟩, by simp [intOf]; omega⟩
      · rcases List.mem_or_eq_of_mem_set hp with q | q
        · exact PO.out p q
        · rw [q]; exact ⟨A1L.out, SUM.out⟩
      · exact only_trans GR.out ST.out.2
    · obtain rfl : k = n := by omega
      have hkk : ¬ (k : Int) < (k : Int) := by omega
      have KR := Lib.hid (K7.out.grown GR.out (fun e => by have := (CL.out _ e.symm).1; have := IS.out; omega))
      have VR := Lib.hid (HV0.out.below WR.out)
      have IR := Lib.hid (show Rd wr (.slice ia bl ic) l0 from I7.out.keep (fun g hg hl => GR.out.block g hl (fun e => by have := IOW.out g hg; have := (CL.out g e.symm).1; omega)))
      have DR := Lib.hid (D7.out.grown GR.out (fun e => by have := (CL.out _ e.symm).2; have := DL.out; omega))
      have QR := Lib.hid (Q7.out.keep (fun g hg hl => GR.out.block g hl (fun e => by have := QL.out g hg; have := (CL.out g e.symm).2; omega)))
      clear W7 K7 V7 I7 P7 O7 C7 D7 Q7 OW
      have W7 := WR
      have K7 := KR
      have V7 := VR
      have I7 := IR
      have D7 := DR
      have Q7 := QR
      clear WR KR VR IR DR QR
      go_upto_region 11 with (first
        | ((with_reducible show wpList _ _ _ (Oper.mk _ (.load _ (.tmp 3)) _ _ _ _ :: _) _ _); refine wpList_load_mid rfl 28 (.tmp 3) rfl w.heap.size 0 rfl KC _ K7.out.range Tryd.underlying28 rfl (by rw [K32.out]; exact infoKeyA) ?_)
        | (go_at_call 15; (with_reducible refine (HP.out _ _ I7.out (HT.out.below W7.out)).mono ?_); rintro e w8 ⟨eu, rfl, eu2, b9⟩; have W8 := Lib.hid (W7.out.on b9); have K8 := Lib.hid (K7.out.below b9 K7.out.lt); have V8 := Lib.hid (V7.out.below b9); have I8 := Lib.hid (I7.out.below b9); have D8 := Lib.hid (D7.out.below b9 D7.out.lt); have Q8 := Lib.hid (Q7.out.below b9); obtain ⟨ea, eq, rfl, _⟩ := (owned_rd eu2).shape; have Z8 := Lib.hid (owned_rd eu2); clear eu2; clear b9)
        | ((with_reducible show wpList _ _ _ (Oper.mk _ (.store _ (.tmp 11) (.tmp 57)) _ _ _ _ :: _) _ _); refine wpList_store_blk rfl 27 (.tmp 11) (.tmp 57) rfl w8.heap.size 0 (XR (.slice ea k eq)) rfl rfl 27 Z0 (Blk.new w8 27 Z0 _ rfl) (by have := XL.out (.slice ea k eq); have := Z68.out; omega) (by rw [XL.out (.slice ea k eq)]; exact infoRtC) (X1c.out _ _ _) ?_; intro w9 b' g'; rw [splice_all _ _ (by have := XL.out (.slice ea k eq); have := Z68.out; omega)] at b'; have bb := alloc_turn (Below.refl _ _) g'; have W9 := Lib.hid (W8.out.on bb); have K9 := Lib.hid (K8.out.below bb K8.out.lt); have V9 := Lib.hid (V8.out.below bb); have I9 := Lib.hid (I8.out.below bb); have D9 := Lib.hid (D8.out.below bb D8.out.lt); have Q9 := Lib.hid (Q8.out.below bb); have Z9 := Lib.hid (Z8.out.below bb); have E9 := Lib.hid b'; clear b' g' bb))
      obtain ⟨eb, heb⟩ : ∃ x, x = w8.heap.size := ⟨_, rfl⟩
      rw [← heb] at E9 ⊢
      clear heb W7 K7 V7 I7 D7 Q7 W8 K8 V8 I8 D8 Q8 Z8
      go_wp2_with ((fail_if_success (with_reducible show bodyPost _ _ _ _ _ _)); first
        | ((with_reducible show wpList _ _ _ (Oper.mk _ (.load _ (.tmp 11)) _ _ _ _ :: _) _ _); refine wpList_load_mid rfl 27 (.tmp 11) rfl eb 0 rfl (XR (.slice ea k eq)) _ E9.out.range Tryd.underlying27 rfl (by rw [XL.out]; exact infoRtC) ?_)
        | ((with_reducible show wpList _ _ _ (Oper.mk _ (.load _ (.tmp 8)) _ _ _ _ :: _) _ _); refine wpList_load_mid rfl 27 (.tmp 8) rfl db 0 rfl (XR (.slice da k dq)) _ D9.out.range Tryd.underlying27 rfl (by rw [XL.out]; exact infoRtC) ?_)
        | (go_at_call 13; (with_reducible refine ((HSM.out _ _ _ Z9.out Q9.out)).mono ?_); rintro e w10 ⟨rfl, b9⟩; have W10 := Lib.hid (W9.out.on b9); have K10 := Lib.hid (K9.out.below b9 K9.out.lt); have V10 := Lib.hid (V9.out.below b9); have I10 := Lib.hid (I9.out.below b9); have D10 := Lib.hid (D9.out.below b9 D9.out.lt); have Q10 := Lib.hid (Q9.out.below b9); have Z10 := Lib.hid (Z9.out.below b9); have E10 := Lib.hid (E9.out.below b9 E9.out.lt); clear b9)
        | ((with_reducible show wpList _ _ _ (Oper.mk _ (.convert _ _ (.tmp 63)) _ _ _ _ :: _) _ _); refine wpList_wanted rfl (.string S) (ex_convert (x := .tmp 63) rfl rfl (by rw [HS.out]; exact I10.out.str)) ?_)
        | ((with_reducible show wpList _ _ _ (Oper.mk _ (.convert _ _ (.tmp 65)) _ _ _ _ :: _) _ _); refine wpList_wanted rfl (.string S) (ex_convert (x := .tmp 65) rfl rfl (by rw [HS.out]; exact V10.out.str)) ?_)
        | ((with_reducible show wpList _ _ _ (Oper.mk _ (.binOp _ _ (.tmp 64) (.tmp 66) _) _ _ _ _ :: _) _ _); refine wpList_wanted rfl (.bool true) (ex_binOp (x := .tmp 64) (y := .tmp 66) (b := .eql) (t := 9) rfl rfl rfl (by go_simp) (HE.out _)) ?_)
        | (go_at_call 14; (with_reducible refine (rtawake_any _ (HT.out.below W10.out)).mono ?_); rintro e w11 ⟨rfl, b9⟩; have W11 := Lib.hid (W10.out.on b9); have K11 := Lib.hid (K10.out.below b9 K10.out.lt); have V11 := Lib.hid (V10.out.below b9); have I11 := Lib.hid (I10.out.below b9); have D11 := Lib.hid (D10.out.below b9 D10.out.lt); have Q11 := Lib.hid (Q10.out.below b9); have Z11 := Lib.hid (Z10.out.below b9); have E11 := Lib.hid (E10.out.below b9 E10.out.lt); clear b9))
      go_ret
      exact ⟨rfl, W11.out⟩
set_option maxRecDepth 100000 in
theorem reads (os : Os) {H : Type} (enc : TypeId × Value → H) : ∃ places, DataW.whole enc Tryd.prog ((World.doorLaid Tryd.prog 400 os).forCall (fun _ _ => 0) ⟨#[], #[.slice none 0 0, .agg (row8 (List.replicate 32 0)).toArray], []⟩).memory Tryd.f4.params.toList Rows.rootGetsSpec.vars false (#[.slice none 0 0, .agg (row8 (List.replicate 32 0)).toArray] : Array Value).toList 8 = some ([.nil, lit8 (List.replicate 32 0)], [], places) :=
  ⟨[], by kernel_rfl⟩
set_option linter.unusedVariables false in
set_option maxHeartbeats 1000000 in
set_option maxRecDepth 100000 in
theorem lifted (os : Os) (started : os.Started) (H : Type) (enc : TypeId × Value → H) (F : Stop.Interp) :
    ReturnsInHanded {} Tryd.checked os 4 .any ((OpenSpec.ofChange Rows.rootGetsSpec).preRow enc Tryd.prog Tryd.f4 Rows.rootGetsRow.domain false laidB) (((OpenSpec.ofChange Rows.rootGetsSpec).at F).post enc Tryd.prog Tryd.f4 false true false false) := by
  obtain ⟨places, hx⟩ := reads os enc
  refine returnsInHanded_of_row (C := Tryd.checked) (s := OpenSpec.ofChange Rows.rootGetsSpec) own started (by kernel_rfl) Tryd.func4
    (witness_row_atRef (enc := enc) (C := Tryd.checked) false (World.doorLaid Tryd.prog 400 os) #[.slice none 0 0, .agg (row8 (List.replicate 32 0)).toArray] rfl (by kernel_rfl) (by kernel_rfl) (by kernel_rfl)
      (OpenSpec.preRow_of_cond 8 hx (by kernel_rfl) (fun k hk => by cases hk) (by kernel_rfl) (doorB_met os _))) ?_
  intro W base args ds gs before hval0 hW _ hcond hsz0 hL _ _
  have hsz : (DataW.weightsEach Tryd.prog (Tryd.f4.params.toList ++ Rows.rootGetsSpec.plain.varTypes Tryd.prog) (ds ++ gs)).all (· ≤ reachBytes) = true := hsz0
  clear hsz0
  have hval : ∀ (j : Nat) t v, Tryd.f4.params[j]? = some t → args[j]? = some v → Value.okWide Tryd.prog W .any base t v := hval0
  have hW' := hW
  obtain ⟨p, q, hA0, hV, rfl, _, _⟩ := hW
  have hA : DataW.TrodAll enc Tryd.prog W 0 (fun _ => true) true Tryd.f4.params.toList args.toList ds p := hA0
  rw [Tryd.params4] at hA hval hsz
  obtain ⟨v0, vs0, d0, ds0, p0, q0, hargs, rfl, rfl, g0, r0⟩ := trodAll_cons hA
  obtain ⟨v1, vs1, d1, ds1, p1, q1, rfl, rfl, rfl, g1, r1⟩ := trodAll_cons r0
  obtain ⟨rfl, rfl, rfl⟩ := trodAll_nil r1
  obtain rfl : args = #[v0, v1] := by cases args; simp_all
  obtain ⟨rfl, rfl⟩ := trodVars_none hV
  obtain ⟨l0, h0⟩ := open_bytes (hval 0 30 v0 rfl rfl) g0 (fun elems spare e => sized_slice hsz (j := 0) (t := 30) (e := 5) rfl (by rw [← e]; rfl) Tryd.underlying30)
  obtain ⟨l1, h1, rfl, rfl, rfl⟩ := open_row Tryd.underlying28 Tryd.underlying5 cells5 (hval 1 28 v1 rfl rfl) cells28 g1
  clear hA0 hval0
  have hlt := hW'.lt
  refine (walk W (tabs_of_laid hL) v0 l0 h0 l1 h1).mono fun e W' ⟨he, hb⟩ => ?_
  subst he
  have hargs : DataW.TrodAll enc Tryd.prog W' 0 (fun b => decide (b < W.heap.size)) true _ _ _ _ := (trodAll_cons_mk (Below.trod laidOut (by kernel_rfl) (of_decide_eq_true (by kernel_rfl)) g0 hb (fun x hx => hlt x (by simp [hx]))) (trodAll_cons_mk (shut_row Tryd.underlying28 Tryd.underlying5 cells5 cells28 h1) trodAll_mk0))
  simp only [List.append_nil] at hW' hargs
  exact ⟨_, rfl, post_law hW' (trodAll_cons_mk (shut_bool Tryd.underlying4 _) trodAll_mk0) hargs rfl hb⟩
theorem over : Rows.rootGetsRow.holds Tryd.pinned (OpenSpec.ofChange Rows.rootGetsSpec) :=
  OpenClaim.holds_of_cond 4 Tryd.f4 rfl rfl rfl rfl rfl rfl rfl ⟨rfl, rfl, rfl, rfl, rfl⟩ rfl rfl rfl rfl rfl (by kernel_rfl) Tryd.func4 (by kernel_rfl)
    (of_decide_eq_true (by kernel_rfl)) (by unfold Func.isWrapper; first | (rw [if_pos (by decide +kernel)]; kernel_rfl) | (rw [if_neg (by decide +kernel)]; exact ⟨rfl, rfl⟩))
    (fun os started H enc _ F => by rw [OpenClaim.pre_eq_preRow]; exact lifted os started H enc F)

/-- The given statement. -/
theorem proved : Rows.RootGetsCardSaid :=
  Claim7.holds_tied_plain_at .later [] _ _ _ _
    over (fun _ h => by cases h) (by kernel_rfl) (fun _ h => by cases h) rootGets_row_tie rfl ⟨rfl, rfl⟩ (by kernel_rfl) rfl
    (fun f fn hf hfn => by
      obtain rfl : f = 4 := Option.some.inj ((show Tryd.prog.funcNamed "reliquary/reliquarylaw14.RootGets" = some 4 by kernel_rfl).symm.trans hf) |>.symm
      obtain rfl : fn = Tryd.f4 := (Option.some.inj (Tryd.func4.symm.trans hfn)).symm
      exact ⟨by kernel_rfl, fun j t ht => by
        rw [Tryd.params4] at ht
        have hm : t ∈ [30, 28] := by simpa using Array.mem_of_getElem? ht
        have hall : ([30, 28].all fun u => !Tryd.prog.wantsStandIn u) = true := by kernel_rfl
        exact (show Tryd.prog.wantsStandIn t = false by simpa using List.all_eq_true.1 hall t hm)⟩)
    (by kernel_rfl)
end Go.Proofs.YtenigdbnfepkeaaDoor.rootGets
