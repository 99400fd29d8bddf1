/- What every right program lays (law 18's awake): contract. Own work. -/
import Derived.Test.YtkagapgganoomaaCtPut
import Derived.Test.YtkagapgganoomaaCtSnap
namespace Go.Proofs.Ytkagapgganoomaa
open Go.ChangeShapes Go.WideShapes Go.ChangeAt Go.RowKit
open RT CT
def sA : ByteArray := ⟨#[97]⟩
def sB : ByteArray := ⟨#[98]⟩
def oneA : Ct := ⟨zp, [⟨sA, zp⟩]⟩
theorem oneA_ok : CT.Ok oneA := ⟨zp_ok, fun s hs => by
  rw [show oneA.snaps = [⟨sA, zp⟩] from rfl, List.mem_singleton] at hs
  subst hs; exact zp_ok⟩
theorem aw_put : CT.check CT.zero = 0 ∧ (CT.put CT.zero).length = 37 := ⟨by rfl, by rfl⟩
theorem aw_snap : CT.snap CT.zero sA = (oneA, 0) := by rfl
theorem aw_same : CT.snap oneA sA = (CT.zero, 23) := by rfl
theorem aw_drop : CT.drop oneA sB = (CT.zero, 22) := by rfl
set_option maxRecDepth 100000 in
set_option maxHeartbeats 4000000 in
theorem cawake_any (w : World) : Calls Try.prog 11 #[] w fun e w' => e = .returned (.bool true) ∧ Below w.heap.size w w' := by
  have HP := Lib.hid (fun W => cpput_any CT.zero CT.zero_ok _ W (RdT.none_ 34 W) (by decide))
  have HS := Lib.hid (fun W => cpsnap_any CT.zero CT.zero_ok sA _ W (RdT.none_ 34 W) (by decide))
  have HT := Lib.hid (fun v W (h : RdT 34 W v oneA.snaps.length (sncs oneA.snaps)) => cpsnap_any oneA oneA_ok sA v W h (by decide))
  have HD := Lib.hid (fun v W (h : RdT 34 W v oneA.snaps.length (sncs oneA.snaps)) => cpdrop_any oneA oneA_ok sB v W h (by decide))
  have HL := Lib.hid aw_put.2
  rw [aw_put.1] at HP
  rw [aw_snap] at HS
  rw [aw_same] at HT
  rw [aw_drop] at HD
  rw [show ((oneA, (0 : Int)) : Ct × Int).1 = oneA from rfl, show ((oneA, (0 : Int)) : Ct × Int).2 = 0 from rfl] at HS
  rw [show ((CT.zero, (23 : Int)) : Ct × Int).1 = CT.zero from rfl, show ((CT.zero, (23 : Int)) : Ct × Int).2 = 23 from rfl] at HT
  rw [show ((CT.zero, (22 : Int)) : Ct × Int).1 = CT.zero from rfl, show ((CT.zero, (22 : Int)) : Ct × Int).2 = 22 from rfl] at HD
  rw [show oneA.snaps.length = 1 from rfl] at HS HT HD
  rw [show CT.zero.snaps.length = 0 from rfl] at HT HD
  obtain ⟨Z, hZ⟩ : ∃ Z, Z = ctc CT.zero (.slice none 0 0) := ⟨_, rfl⟩
  have hz : ∀ w, (zeroValue 29).run Try.prog w = .ok (.agg Z.toArray) w := by rw [hZ]; exact zeroCt
  have hbr : Try.prog.built 29 [] = some Z.toArray := by rw [hZ]; exact builtCt0
  have Z34 := Lib.hid (show Z.length = 34 by rw [hZ]; exact ctc_len CT.zp_ok _)
  have HZL := Lib.hid (fun u : Value => show (ctc CT.zero u).length = 34 from ctc_len CT.zp_ok u)
  have HAL := Lib.hid (fun u : Value => show (ctc oneA u).length = 34 from ctc_len oneA_ok.top u)
  have HZO := Lib.hid (fun (a : Option Addr) (n q : Nat) => show (ctc CT.zero (.slice a n q)).toArray.all (·.oneCell') = true from ctc_all rfl)
  have HAO := Lib.hid (fun (a : Option Addr) (n q : Nat) => show (ctc oneA (.slice a n q)).toArray.all (·.oneCell') = true from ctc_all rfl)
  have HA33 := Lib.hid (fun u : Value => show (ctc oneA u)[33]? = some u from ctc_snaps oneA_ok.top u)
  have HRG := Lib.hid (fun W a q (h : RdT 34 W (.slice a 1 q) 1 (sncs oneA.snaps)) => show ∃ b off, a = some ⟨b, off, none⟩ ∧ W.cell? ⟨b, off, none⟩ = some (.string sA) by
    obtain ⟨b, off, e, -, hn, -⟩ := sn_range h oneA_ok.snaps rfl (k := 0) (by decide)
    rw [Nat.zero_mul, Nat.add_zero] at hn
    exact ⟨b, off, e, hn⟩)
  rw [← hZ] at HP HS
  have hsa : (⟨#[97]⟩ : ByteArray) = sA := rfl
  have hsb : (⟨#[98]⟩ : ByteArray) = sB := rfl
  obtain ⟨AS, hAS⟩ : ∃ x, x = sncs oneA.snaps := ⟨_, rfl⟩
  rw [← hAS] at HS HT HD HRG
  obtain ⟨ZP, hZP⟩ : ∃ x, x = CT.put CT.zero := ⟨_, rfl⟩
  rw [← hZP] at HP HL
  obtain ⟨one, hone⟩ : ∃ x, x = oneA := ⟨_, rfl⟩
  rw [← hone] at HS HT HD HAL HAO HA33
  obtain ⟨zr, hzr⟩ : ∃ x, x = CT.zero := ⟨_, rfl⟩
  rw [← hzr] at HT HD HZL HZO
  clear hZ hAS hZP hone hzr
  go_enter Try.func11, Try.ntmps11
  go_wp2_with ((fail_if_success (with_reducible show bodyPost _ _ _ _ _ _)); first
    | ((with_reducible show wpList _ _ _ (Oper.mk (some 10) (.build _ _) _ _ _ _ :: _) _ _); refine wpList_wanted rfl (.agg Z.toArray) (ex_buildN rfl hbr) ?_)
    | ((with_reducible show wpList _ _ _ (Oper.mk (some 15) (.build _ _) _ _ _ _ :: _) _ _); refine wpList_wanted rfl (.agg Z.toArray) (ex_buildN rfl hbr) ?_)
    | (go_at_call 13; (with_reducible refine (HP.out _).mono ?_); rintro e w2 ⟨u2, rfl, o2, b2⟩; obtain ⟨a2, q2, hsh, _⟩ := o2.rd.shape; rw [HL.out] at hsh; subst hsh; have W2 := Lib.hid b2; clear o2 b2)
    | (go_at_call 23; (try rw [hsa]); (with_reducible refine (HS.out _).mono ?_); rintro e w3 ⟨u3, rfl, o3, b3⟩; obtain ⟨a3, q3, hsh, _⟩ := (owned_rd o3).shape; subst hsh; have V3 := Lib.hid (owned_rd o3); have W3 := Lib.hid (W2.out.on b3); clear o3 b3)
    | ((with_reducible show wpList _ _ _ (Oper.mk _ (.store _ (.tmp 3) (.tmp 17)) _ _ _ _ :: _) _ _); refine wpList_store_blk rfl 29 (.tmp 3) (.tmp 17) rfl w3.heap.size 0 (ctc one (.slice a3 1 q3)) rfl rfl 29 Z (Blk.new w3 29 Z _ rfl) (by rw [HAL.out, Z34.out]; exact Nat.le_refl _) (by rw [HAL.out]; exact infoCtC) (HAO.out _ _ _) ?_; intro w4 b4 g4; rw [splice_all _ _ (by rw [HAL.out, Z34.out])] at b4; have X4 := Lib.hid b4; have B4 := Lib.hid (((Below.refl w3.heap.size w3).alloc (Nat.le_refl _) (.cells Z.toArray 29)).grown g4 (by simp) (fun g hg => Nat.le_of_eq (Option.some.inj hg))); have V4 := Lib.hid (V3.out.below B4.out); have W4 := Lib.hid (W3.out.on B4.out); clear b4 g4)
    | ((with_reducible show wpList _ _ _ (Oper.mk (some 20) (.load _ _) _ _ _ _ :: _) _ _); refine wpList_load_mid rfl 29 (.tmp 3) rfl w3.heap.size 0 rfl (ctc one (.slice a3 1 q3)) _ X4.out.range Try.underlying29 rfl (by rw [HAL.out]; exact infoCtC) ?_)
    | (go_at_call 23; (try rw [hsa]); (with_reducible refine (HT.out _ _ V4.out).mono ?_); rintro e w5 ⟨u5, rfl, o5, b5⟩; obtain ⟨a5, q5, hsh, _⟩ := (owned_rd o5).shape; subst hsh; have X5 := Lib.hid (X4.out.below b5 X4.out.lt); have V5 := Lib.hid (V4.out.below b5); have W5 := Lib.hid (W4.out.on b5); clear o5 b5)
    | ((with_reducible show wpList _ _ _ (Oper.mk _ (.store _ (.tmp 5) (.tmp 22)) _ _ _ _ :: _) _ _); refine wpList_store_blk rfl 29 (.tmp 5) (.tmp 22) rfl w5.heap.size 0 (ctc zr (.slice a5 0 q5)) rfl rfl 29 Z (Blk.new w5 29 Z _ rfl) (by rw [HZL.out, Z34.out]; exact Nat.le_refl _) (by rw [HZL.out]; exact infoCtC) (HZO.out _ _ _) ?_; intro w6 b6 g6; have B6 := Lib.hid (((Below.refl w5.heap.size w5).alloc (Nat.le_refl _) (.cells Z.toArray 29)).grown g6 (by simp) (fun g hg => Nat.le_of_eq (Option.some.inj hg))); have X6 := Lib.hid (X5.out.below B6.out X5.out.lt); have V6 := Lib.hid (V5.out.below B6.out); have W6 := Lib.hid (W5.out.on B6.out); clear b6 g6)
    | ((with_reducible show wpList _ _ _ (Oper.mk (some 25) (.load _ _) _ _ _ _ :: _) _ _); refine wpList_load_mid rfl 29 (.tmp 3) rfl w3.heap.size 0 rfl (ctc one (.slice a3 1 q3)) _ X6.out.range Try.underlying29 rfl (by rw [HAL.out]; exact infoCtC) ?_)
    | (go_at_call 25; (try rw [hsb]); (with_reducible refine (HD.out _ _ V6.out).mono ?_); rintro e w7 ⟨u7, rfl, o7, b7⟩; obtain ⟨a7, q7, hsh, _⟩ := (owned_rd o7).shape; subst hsh; have X7 := Lib.hid (X6.out.below b7 X6.out.lt); have V7 := Lib.hid (V6.out.below b7); have W7 := Lib.hid (W6.out.on b7); clear o7 b7)
    | ((with_reducible show wpList _ _ _ (Oper.mk _ (.store _ (.tmp 7) (.tmp 27)) _ _ _ _ :: _) _ _); refine wpList_store_blk rfl 29 (.tmp 7) (.tmp 27) rfl w7.heap.size 0 (ctc zr (.slice a7 0 q7)) rfl rfl 29 Z (Blk.new w7 29 Z _ rfl) (by rw [HZL.out, Z34.out]; exact Nat.le_refl _) (by rw [HZL.out]; exact infoCtC) (HZO.out _ _ _) ?_; intro w8 b8 g8; have B8 := Lib.hid (((Below.refl w7.heap.size w7).alloc (Nat.le_refl _) (.cells Z.toArray 29)).grown g8 (by simp) (fun g hg => Nat.le_of_eq (Option.some.inj hg))); have X8 := Lib.hid (X7.out.below B8.out X7.out.lt); have c8 := X8.out.cell 33 _ (HA33.out _); have V8 := Lib.hid (V7.out.below B8.out); obtain ⟨pb, po, hpa, hnm⟩ := HRG.out _ _ _ V8.out; subst hpa; have W8 := Lib.hid (W7.out.on B8.out); clear b8 g8)
    | ((with_reducible show wpList _ _ _ (Oper.mk _ (.binOp _ _ (.tmp 51) _ _) _ _ _ _ :: _) _ _); (try rw [hsa]); refine wpList_binW (.tmp 51) (.const (.string sA)) .eql 9 9 rfl (.string sA) (.string sA) (.bool true) rfl rfl (eqG_str .eql _ _ sA sA _) (by rw [run_eql_str]; simp) rfl ?_))
  go_ret
  exact ⟨rfl, W8.out⟩
end Go.Proofs.Ytkagapgganoomaa
