/- RootTurned: a root in which a byte was turned is seen to be none, but where it has the very same sum; so is one that is too short, or too long; and the law's closed case holds. No condition. -/
import Derived.Test.YtenigdbnfepkeaaDoorRows
import Derived.Test.YtenigdbnfepkeaaDoorRtAwake
import Derived.Test.YtenigdbnfepkeaaDoorShaD
import Derived.Test.YtenigdbnfepkeaaDoorFillX
import Derived.Test.YtenigdbnfepkeaaDoorMem
import Derived.Test.YtenigdbnfepkeaaDoorFactX
import Derived.Test.YtenigdbnfepkeaaDoorShaC
import Derived.Test.YtenigdbnfepkeaaDoorTie
import Derived.Test.YtenigdbnfepkeaaDoorCards
import Derived.SevenTiedAt
import Derived.Test.YtenigdbnfepkeaaDoorRootArg
import Derived.WalkKit
import Derived.ProofKit
import Derived.OpenShut
import Derived.SizedLaws
import Derived.Carry
import Derived.Deep.DeepHandedRow
import Derived.Deep.DeepWitnessRowRef
namespace Go.Proofs.YtenigdbnfepkeaaDoor.rootTurned
open Go.ChangeShapes Go.WideShapes Go.ChangeAt Go.RowKit
open RT
/-- What a value alone tells. -/
def _root_.Go.Proofs.YtenigdbnfepkeaaDoor.Pred.told {B : Nat} (p : Value → Prop) : Pred B := ⟨fun v _ => p v, true, fun h _ => h, fun h _ _ _ => h⟩
/-- A block of the region's own, whatever it holds. -/
def _root_.Go.Proofs.YtenigdbnfepkeaaDoor.Pred.blkX {B : Nat} (t : TypeId) : Pred B := ⟨fun v w => ∃ c vs, v = .pointer (some ⟨c, 0, none⟩) ∧ B ≤ c ∧ Blk w c t vs, false,
  fun h hb => by obtain ⟨c, vs, e, hB, hc⟩ := h; exact ⟨c, vs, e, hB, hc.below hb hc.lt⟩,
  fun h hg _ hne => by
    obtain ⟨c, vs, e, hB, hc⟩ := h
    refine ⟨c, vs, e, hB, hc.grown hg fun q => ?_⟩
    rcases hne with q2 | q2
    · cases q2
    · apply q2; rw [e]; exact q⟩
theorem doesS_storeX {B : Nat} {S : Nat → Nat} {ops : List Oper} {Q : Exit → Act → World → Prop} {T : List (Pred B)} {U : Nat → Nat} {i : Nat} {o : Oper} {a : Act} {w : World} (hw : Region.wanted o (yielded ops.toArray a.tmps) = true) (ty t : TypeId) (p : Nat) (x : Operand) (ho : o.op = .store ty (.tmp p) x) (hdst : o.dst = none)
    (d : Nat) (hd : d ∈ depsOf o) (hU : U d = i) (D cs : List Value) (hT : T.getD d (.val undef) = .blk t D) (hS : S d = p) (hSi : S i = p) (hp : (Pred.blk t D : Pred B).holds (a.eval (.tmp p)) w) (hx : a.eval x = .agg cs.toArray) (hlen : cs.length = D.length)
    (hi : (Tryd.prog.info? ty).map (·.size) = some cs.length) (h1 : cs.toArray.all (·.oneCell') = true) (hTi : T.getD i (.val undef) = .blkX t) : DoesS Tryd.prog S ops Q T U i o a w := by
  obtain ⟨c, ec, hB, hc⟩ := hp
  have ev : valS S a d = a.eval (.tmp p) := by unfold valS; rw [hS]; rfl
  have evi : valS S a i = a.eval (.tmp p) := by unfold valS; rw [hSi]; rfl
  refine .inl ⟨hw, fun K hK => wp_store_mid ty (.tmp p) x ho c 0 cs.toArray ec hx (hc.there _ (by rw [List.size_toArray, hlen])) (by simpa using hi) h1 ?_⟩
  have hg : w.grownBy (w.setCells c 0 cs) (some c) := only_setCells c cs 0 w (World.grownBy.refl w _)
  have hn : Blk (w.setCells c 0 cs) c t cs := hc.whole cs hlen
  have hk := hK (.pointer (some ⟨c, 0, none⟩)) (w.setCells c 0 cs) (by rw [hTi]; exact ⟨c, cs, rfl, hB, hn⟩) (.inr ⟨d, c, hd, hU, by rw [hT]; rfl, by rw [ev, ec]; rfl, hB, hg⟩)
    (fun _ g q => by
      have e : c = g := Option.some.inj q
      subst e
      exact ⟨hn.lt, .inr ⟨d, hd, hU, by rw [hT]; rfl, by rw [ev, ec]; rfl⟩⟩)
    (fun _ => by rw [evi, ec])
  rw [hdst] at hk ⊢
  exact hk
theorem told4 {e : Ending} {B : Nat} {w w2 : World} (h : ∃ pv, e = .returned (.tuple #[.agg (rtc zero pv).toArray, .int .i64 4]) ∧ w2.ownsRow B 45 33 pv zero.pages.length (pcs zero.pages) ∧ Below w.heap.size w w2) : ∃ v, e = .returned v ∧ (∃ (xa : Option Addr) (xq : Nat), v = .tuple #[.agg (rtc zero (.slice xa 0 xq)).toArray, .int .i64 4]) ∧ Below w.heap.size w w2 := by
  obtain ⟨pv, he, ho, hb⟩ := h
  obtain ⟨xa, xq, rfl, _⟩ := (owned_rd ho).shape
  exact ⟨_, he, ⟨xa, xq, rfl⟩, hb⟩
theorem u8_xor_natT (a b : Nat) (ha : a < 256) (hb : b < 256) : bits .xor .u8 (a : Int) (b : Int) = ((a ^^^ b : Nat) : Int) := by
  have hx : a ^^^ b < 2 ^ 8 := Nat.xor_lt_two_pow (by omega) (by omega)
  show IntKind.u8.wrap ((BitVec.ofInt 8 (a : Int) ^^^ BitVec.ofInt 8 (b : Int)).toNat : Int) = _
  have e : ∀ n : Nat, n < 256 → (BitVec.ofInt 8 (n : Int)).toNat = n := fun n hn => by rw [BitVec.toNat_ofInt]; omega
  rw [BitVec.toNat_xor, e a ha, e b hb, IntKind.wrap_u8]
  omega
theorem own : ownKnob Tryd.prog.godebug = none := by kernel_rfl
theorem cells28 : Tryd.prog.cellsOf 28 = 32 := by kernel_rfl
theorem cells55 : Tryd.prog.cellsOf 55 = 2 := by kernel_rfl
theorem cells5 : Tryd.prog.cellsOf 5 = 1 := by kernel_rfl
theorem cells54 : Tryd.prog.cellsOf 54 = 1 := by kernel_rfl
set_option linter.unusedVariables false in
set_option maxRecDepth 100000 in
set_option maxHeartbeats 8000000 in
theorem walk (w : World) (ht : TabP w) (r0 : RT.Rt) (v0 : Value) (h0 : RT.Ok r0) (p0 : RdT 33 w v0 r0.pages.length (RT.pcs r0.pages)) (k0 : r0.pages.length ≤ 3909374676536) (l1 : List Nat) (h1 : Bytes 32 l1) (l2 : List Int) (h2 : IntRow .u16 2 l2) :
    Calls Tryd.prog 8 #[.agg (RT.rtc r0 v0).toArray, .agg (row8 l1).toArray, .agg (rowI .u16 l2).toArray] w fun e w' => e = .returned (.bool true) ∧ Below w.heap.size w w' := by
  obtain ⟨pa, pq, rfl, _⟩ := p0.shape
  have HT := Lib.hid ht
  obtain ⟨Z0, hZ0⟩ : ∃ L, L = RT.rtc RT.zero (.slice none 0 0) := ⟨_, rfl⟩
  have hz : ∀ w, (zeroValue 27).run Tryd.prog w = .ok (.agg Z0.toArray) w := by rw [hZ0]; exact zeroRt
  have Z68 := Lib.hid (show Z0.length = 68 by rw [hZ0]; exact RT.rtc_len RT.zero_ok _)
  have HP := fun W hv (hW : TabP W) => pput_any r0 h0 (.slice pa r0.pages.length pq) W hv (by omega) l1 h1 hW
  have HGT := fun x k hk W v hv (hW : TabP W) => pget_any x k hk v W hv hW
  obtain ⟨XR, hXR⟩ : ∃ X, X = rtc r0 := ⟨_, rfl⟩
  have XL := Lib.hid (fun u => show (XR u).length = 68 by rw [hXR]; exact rtc_len h0 u)
  have X1c := Lib.hid (fun ao n c => show ((XR (.slice ao n c)).toArray.all (·.oneCell')) = true by rw [hXR]; exact rt_one _ ao n c)
  obtain ⟨i0, i1, rfl, wi0, wi1⟩ := IntRow.two h2
  have wi0' : 0 ≤ i0 ∧ i0 ≤ 65535 := by simpa [Lit.wf, IntKind.min, IntKind.max, IntKind.signed, IntKind.bits] using wi0
  have wi1' : 0 ≤ i1 ∧ i1 ≤ 65535 := by simpa [Lit.wf, IntKind.min, IntKind.max, IntKind.signed, IntKind.bits] using wi1
  obtain ⟨x0, rfl⟩ : ∃ m : Nat, i0 = (m : Int) := ⟨i0.toNat, by omega⟩
  obtain ⟨x1, rfl⟩ : ∃ m : Nat, i1 = (m : Int) := ⟨i1.toNat, by omega⟩
  obtain ⟨by_, hby⟩ : ∃ x : Nat, x = x1 % 256 := ⟨_, rfl⟩
  have aby : IntKind.u8.wrap (x1 : Int) = (by_ : Int) := by rw [hby, IntKind.wrap_u8]; omega
  have BY := Lib.hid (show by_ < 256 by omega)
  have HSZ := fun W u v hu hv => sameYes (psame_any zero zero zero_ok zero_ok u v W hu hv (by decide))
  obtain ⟨KC, hKC⟩ : ∃ X, X = row8 l1 := ⟨_, rfl⟩
  have K32 := Lib.hid (show KC.length = 32 by rw [hKC, row8_len, h1.1])
  obtain ⟨n, hn⟩ : ∃ n, n = r0.pages.length := ⟨_, rfl⟩
  obtain ⟨CS, hCS⟩ : ∃ n, n = pcs r0.pages := ⟨_, rfl⟩
  rw [← hXR, ← hKC, ← hn, ← hCS] at HP
  rw [← hXR, ← hKC, ← hn]
  rw [← hn, ← hCS] at p0
  obtain ⟨HW, hHW⟩ : ∃ X, X = rowI .u16 [(x0 : Int), (x1 : Int)] := ⟨_, rfl⟩
  have H0c := Lib.hid (show HW[0]? = some (.int .u16 (x0 : Int)) by rw [hHW]; rfl)
  have H1c := Lib.hid (show HW[1]? = some (.int .u16 (x1 : Int)) by rw [hHW]; rfl)
  rw [← hHW]
  obtain ⟨w1, hw1⟩ : ∃ x, x = ((w.alloc (.cells (XR (.slice pa n pq)).toArray 27)).alloc (.cells KC.toArray 28)).alloc (.cells HW.toArray 55) := ⟨_, rfl⟩
  have W1 := Lib.hid (show Below w.heap.size w w1 by rw [hw1]; exact (((Below.refl w.heap.size w).alloc (Nat.le_refl _) _).alloc (by simp) _).alloc (by simp; omega) _)
  have X1 := Lib.hid (show Blk w1 w.heap.size 27 (XR (.slice pa n pq)) by rw [hw1]; exact ((Blk.new w 27 _ _ rfl).alloc _).alloc _)
  have K1 := Lib.hid (show Blk w1 (w.heap.size + 1) 28 KC by rw [hw1]; exact (Blk.new _ 28 KC _ (by simp)).alloc _)
  have H1 := Lib.hid (show Blk w1 (w.heap.size + 2) 55 HW by rw [hw1]; exact Blk.new _ 55 HW _ (by simp))
  have V1 := Lib.hid (p0.below W1.out)
  have HP' := Lib.hid HP
  have HGT' := Lib.hid HGT
  have HSZ' := Lib.hid HSZ
  clear HP HGT HSZ
  have HP := HP'
  have HGT := HGT'
  have HSZ := HSZ'
  clear HP' HGT' HSZ'
  have HOK := Lib.hid h0
  have HK := Lib.hid h1
  have HKC := Lib.hid hKC
  have HZ0 := Lib.hid hZ0
  have c1 := H1.out.cell 1 _ H1c.out
  clear hZ0 hXR hKC hn hCS p0 ht h0 h1 h2 k0 hHW hby wi0 wi1 wi0' wi1'
  go_enter Tryd.func8, Tryd.ntmps8
  go_upto_region 1 with fail
  rw [← hw1]
  clear hw1
  cases hm : may r0 with
  | false =>
    have q1 := put_no hm l1
    have hp1 := HP.out w1 V1.out (HT.out.below W1.out)
    rw [q1.1, q1.2] at hp1
    have HP1 := Lib.hid hp1
    clear hp1
    clear q1 hm c1
    go_wp2_with ((fail_if_success (with_reducible show bodyPost _ _ _ _ _ _)); first
      | ((with_reducible show wpList _ _ _ (Oper.mk _ (.load _ (.tmp 3)) _ _ _ _ :: _) _ _); refine wpList_load_mid rfl 27 (.tmp 3) rfl w.heap.size 0 rfl (XR (.slice pa n pq)) _ X1.out.range Tryd.underlying27 rfl (by rw [XL.out]; exact infoRtC) ?_)
      | ((with_reducible show wpList _ _ _ (Oper.mk _ (.load _ (.tmp 4)) _ _ _ _ :: _) _ _); refine wpList_load_mid rfl 28 (.tmp 4) rfl (w.heap.size + 1) 0 rfl KC _ K1.out.range Tryd.underlying28 rfl (by rw [K32.out]; exact infoKeyA) ?_)
      | (go_at_call 11; (with_reducible refine HP1.out.mono ?_); rintro e w2 ⟨ua, rfl, o9, b9⟩; have W2 := Lib.hid (W1.out.on b9); have H2 := Lib.hid (H1.out.below b9 H1.out.lt); have c1 := H2.out.cell 1 _ H1c.out; clear o9; clear b9)
      | (go_at_call 14; (with_reducible refine (rtawake_any _ (HT.out.below W2.out)).mono ?_); rintro e w3 ⟨rfl, b9⟩; have W3 := Lib.hid (W2.out.on b9); have H3 := Lib.hid (H2.out.below b9 H2.out.lt); clear b9))
    go_ret
    exact ⟨rfl, W3.out⟩
  | true =>
    have q1 := put_yes hm l1
    have hp1 := HP.out w1 V1.out (HT.out.below W1.out)
    rw [q1.1, q1.2] at hp1
    have HP1 := Lib.hid hp1
    clear hp1
    have L1 := Lib.hid (lay_bytes HOK.out hm l1)
    obtain ⟨B, hB⟩ : ∃ x, x = lay r0 l1 := ⟨_, rfl⟩
    rw [← hB] at HP1 L1
    clear hB q1 hm HP V1 c1
    go_upto_region 3 with (first
      | ((with_reducible show wpList _ _ _ (Oper.mk _ (.load _ (.tmp 3)) _ _ _ _ :: _) _ _); refine wpList_load_mid rfl 27 (.tmp 3) rfl w.heap.size 0 rfl (XR (.slice pa n pq)) _ X1.out.range Tryd.underlying27 rfl (by rw [XL.out]; exact infoRtC) ?_)
      | ((with_reducible show wpList _ _ _ (Oper.mk _ (.load _ (.tmp 4)) _ _ _ _ :: _) _ _); refine wpList_load_mid rfl 28 (.tmp 4) rfl (w.heap.size + 1) 0 rfl KC _ K1.out.range Tryd.underlying28 rfl (by rw [K32.out]; exact infoKeyA) ?_)
      | (go_at_call 11; (with_reducible refine HP1.out.mono ?_); rintro e w2 ⟨ub, rfl, o9, b9⟩; have W2 := Lib.hid (W1.out.on b9); have K2 := Lib.hid (K1.out.below b9 K1.out.lt); have H2 := Lib.hid (H1.out.below b9 H1.out.lt); obtain ⟨ba, bc, rfl, hbc⟩ := o9.rd.shape; obtain ⟨bb, rfl⟩ := own_at o9 (by rw [L1.out.1]; decide); have B2 := Lib.hid o9.rd; rw [L1.out.1] at B2 hbc ⊢; have c1 := H2.out.cell 1 _ H1c.out; clear o9; clear b9))
    clear W1 X1 K1 H1 HP1 c1
    by_cases hz0 : by_ = 0
    · subst hz0
      go_wp2_with (go_at_call 14; (with_reducible refine (rtawake_any _ (HT.out.below W2.out)).mono ?_); rintro e w3 ⟨rfl, b9⟩; have W3 := Lib.hid (W2.out.on b9); clear b9)
      go_ret
      exact ⟨rfl, W3.out⟩
    · have e1 : ((by_ : Int) == 0) = false := by rw [beq_eq_false_iff_ne]; omega
      have e2 : ¬ (by_ : Int) = 0 := by omega
      clear hz0
      obtain ⟨j, hj⟩ : ∃ x : Nat, x = x0 % 512 := ⟨_, rfl⟩
      have aj : (x0 : Int).tmod 512 = (j : Int) := by rw [Int.tmod_eq_emod_of_nonneg (by omega)]; omega
      have aj2 : (x0 : Int) % 512 = (j : Int) := by omega
      have JL := Lib.hid (show j < 512 by omega)
      obtain ⟨nb, hnb⟩ : ∃ x : Nat, x = gb B j ^^^ by_ := ⟨_, rfl⟩
      have NB := Lib.hid (show nb < 256 by rw [hnb]; exact Nat.xor_lt_two_pow (n := 8) (L1.out.2 j) BY.out)
      have axor : bits .xor .u8 ((gb B j : Nat) : Int) (by_ : Int) = (nb : Int) := by rw [hnb]; exact u8_xor_natT _ _ (L1.out.2 j) BY.out
      obtain ⟨Cb, hCb⟩ : ∃ x, x = B.set j nb := ⟨_, rfl⟩
      have CB := Lib.hid (show Bytes 512 Cb by rw [hCb]; exact bytes_set L1.out j nb JL.out NB.out)
      have HE2 := Lib.hid (own_empty w2 (b := w2.heap.size) rfl (base := w2.heap.size) (Nat.le_refl _))
      have WE2 := Lib.hid ((Below.refl w2.heap.size w2).alloc (Nat.le_refl _) (.cells #[] 5))
      have BI2 := Lib.hid (fun g hg => B2.out.old (by rw [L1.out.1]; decide) g hg)
      clear hj hnb
      go_upto_region 8 with (refine wpList_app rfl (.tmp 45) (.tmp 46) rfl w2.heap.size (.slice (some ⟨w2.heap.size, 0, none⟩) 0 0) (.slice (some ⟨bb, 0, none⟩) 512 bc) [] B rfl rfl HE2.out (B2.out.below WE2.out) (by rw [L1.out.1]; decide) WE2.out.size ?_; intro v3 w3 o3 g3 k3; rw [List.nil_append] at o3; have OC3 := Lib.hid o3; have hb3 := (show Below w2.heap.size w2 w3 from WE2.out.grown g3 WE2.out.size (fun g hg => by have e : w2.heap.size = g := Option.some.inj hg; omega)); have W3 := Lib.hid (W2.out.on hb3); have K3 := Lib.hid (K2.out.below hb3 K2.out.lt); have H3 := Lib.hid (H2.out.below hb3 H2.out.lt); have B3 := Lib.hid (B2.out.below hb3); clear o3 g3 k3 hb3)
      obtain ⟨ea, ec, hsh, _⟩ := OC3.out.rd.shape
      rw [L1.out.1] at hsh
      subst hsh
      have OC3' := OC3.out
      rw [show (512 : Nat) = B.length from L1.out.1.symm] at OC3'
      obtain ⟨eb, rfl⟩ := own_at OC3' (by rw [L1.out.1]; decide)
      have c0 := H3.out.cell 0 _ H0c.out
      have cj := OC3'.cell rfl j (by rw [L1.out.1]; exact JL.out)
      have fj := OC3'.free rfl j
      have SETC := Lib.hid (OC3'.set j nb NB.out (by rw [L1.out.1]; exact JL.out))
      have EB := Lib.hid (show w2.heap.size ≤ eb ∧ eb < w3.heap.size from OC3'.from eb rfl)
      rw [← hCb, L1.out.1] at SETC
      have hjI : (j : Int) < 512 := by have := JL.out; omega
      have hj0 : (0 : Int) ≤ (j : Int) := by omega
      clear OC3' hCb
      go_upto_region 9 with fail
      obtain ⟨w4, hw4⟩ : ∃ x, x = w3.setCell ⟨eb, j, none⟩ (.int .u8 (nb : Int)) := ⟨_, rfl⟩
      rw [← hw4] at SETC ⊢
      have g4 := Lib.hid (show w3.grownBy w4 (some eb) by rw [hw4]; exact grownBy_cell w3 eb j _)
      have W4 := Lib.hid (W3.out.grown g4.out W3.out.size (fun g hg => by have := EB.out.1; have := W2.out.size; have := Option.some.inj hg; omega))
      have K4 := Lib.hid (K3.out.grown g4.out (fun e => by have := EB.out.1; have := K2.out.lt; have := Option.some.inj e; omega))
      have B4 := Lib.hid (B3.out.grown g4.out (.inr (fun e => BI2.out eb EB.out.1 e)))
      have C4 := Lib.hid SETC.out.rd
      clear hw4 g4 W3 K3 H3 B3 SETC OC3 c0 cj fj W2 K2 H2 B2 HE2 WE2
      have HG1 := fun W v hv hW => HGT.out Cb l1 HK.out W v hv hW
      rw [← HKC.out] at HG1
      have HG1' := Lib.hid HG1
      clear HG1
      have HG1 := HG1'
      clear HG1'
      have GOK := Lib.hid (got_ok CB.out.2 l1)
      have GL := Lib.hid (fun u => rtc_len GOK.out u)
      have GZ := Lib.hid (fun (h : sealed Cb l1 = false) => got_open CB.out.1 h)
      have GN := Lib.hid (show sealed Cb l1 = true → gerr Cb l1 ≠ 40 from fun hs => by
        unfold gerr
        rw [if_pos CB.out.1, hs, if_pos rfl]
        split <;> decide)
      have SEQ := Lib.hid (show sealed Cb l1 = true → SM.mac l1 (Cb.take 480) = Cb.drop 480 from fun h => of_decide_eq_true h)
      obtain ⟨GR, hGR⟩ : ∃ x, x = got Cb l1 := ⟨_, rfl⟩
      obtain ⟨g, hg⟩ : ∃ x, x = gerr Cb l1 := ⟨_, rfl⟩
      obtain ⟨sl, hsl⟩ : ∃ x, x = sealed Cb l1 := ⟨_, rfl⟩
      rw [← hGR, ← hg] at HG1 GZ
      rw [← hGR] at GOK GL
      rw [← hsl] at GZ GN SEQ
      rw [← hg] at GN
      obtain ⟨M1, hM1⟩ : ∃ x, x = SM.mac l1 (Cb.take 480) := ⟨_, rfl⟩
      have HM1 := Lib.hid hM1
      rw [← hM1] at SEQ
      have MB1 := Lib.hid (show Bytes 32 M1 by rw [hM1]; exact mac_bytes _ _)
      clear hGR hg hsl hM1
      go_upto_region 10 with (first
        | ((with_reducible show wpList _ _ _ (Oper.mk _ (.load _ (.tmp 4)) _ _ _ _ :: _) _ _); refine wpList_load_mid rfl 28 (.tmp 4) rfl (w.heap.size + 1) 0 rfl KC _ K4.out.range Tryd.underlying28 rfl (by rw [K32.out]; exact infoKeyA) ?_)
        | (go_at_call 15; (with_reducible refine (HG1.out _ _ C4.out (HT.out.below W4.out)).mono ?_); rintro e w5 ⟨du, rfl, du2, b9⟩; have W5 := Lib.hid (W4.out.on b9); have K5 := Lib.hid (K4.out.below b9 K4.out.lt); have B5 := Lib.hid (B4.out.below b9); have C5 := Lib.hid (C4.out.below b9); obtain ⟨da, dq, rfl, _⟩ := (owned_rd du2).shape; have P5 := Lib.hid (owned_rd du2); have PL5 := Lib.hid (fun g hg => (World.ownsRow.lt du2 g hg).2); clear du2; clear b9)
        | ((with_reducible show wpList _ _ _ (Oper.mk _ (.store _ (.tmp 11) (.tmp 61)) _ _ _ _ :: _) _ _); refine wpList_store_blk rfl 27 (.tmp 11) (.tmp 61) rfl w5.heap.size 0 (rtc GR (.slice da GR.pages.length dq)) rfl rfl 27 Z0 (Blk.new w5 27 Z0 _ rfl) (by have := GL.out (.slice da GR.pages.length dq); have := Z68.out; omega) (by rw [GL.out (.slice da GR.pages.length dq)]; exact infoRtC) (rt_one _ _ _ _) ?_; intro w6 b' g'; rw [splice_all _ _ (by have := GL.out (.slice da GR.pages.length dq); have := Z68.out; omega)] at b'; have bb := alloc_turn (Below.refl _ _) g'; have W6 := Lib.hid (W5.out.on bb); have K6 := Lib.hid (K5.out.below bb K5.out.lt); have B6 := Lib.hid (B5.out.below bb); have C6 := Lib.hid (C5.out.below bb); have P6 := Lib.hid (P5.out.below bb); have D6 := Lib.hid b'; clear b' g' bb))
      obtain ⟨db, hdb⟩ : ∃ x, x = w5.heap.size := ⟨_, rfl⟩
      have DL := Lib.hid (show ∀ g, (Value.slice da GR.pages.length dq).ownBlock = some g → g < db from fun g hg => by rw [hdb]; exact PL5.out g hg)
      rw [← hdb] at D6 ⊢
      clear PL5 hdb W4 K4 B4 C4 W5 K5 B5 C5 P5 HG1
      have RK6 := Lib.hid (show Rd w6 (.slice (some ⟨w.heap.size + 1, 0, none⟩) 32 32) l1 from rd_part K6.out HK.out (by rw [HKC.out, List.drop_zero, List.take_of_length_le (by rw [row8_len, HK.out.1]; exact Nat.le_refl _)]) (by decide))
      have R480 := Lib.hid (show Rd w6 (.slice (some ⟨eb, 0, none⟩) 480 ec) (Cb.take 480) from C6.out.take 480 (by rw [CB.out.1]; decide))
      have BO := Lib.hid (show (Cb.take 480).length = 480 by rw [List.length_take, CB.out.1]; rfl)
      obtain ⟨BD, hBD⟩ : ∃ x, x = Cb.take 480 := ⟨_, rfl⟩
      rw [← hBD] at R480 BO HM1
      have HOV := Lib.hid (fun (h : 0 < BD.length) g hg => R480.out.old h g hg)
      have HT6 := Lib.hid (HT.out.below W6.out)
      obtain ⟨_, hec⟩ : ∃ _ : Nat, 512 ≤ ec := ⟨0, by obtain ⟨q1, q2, q3, q4⟩ := C6.out.shape; injection q3 with _ _ q5; rw [q5]; rw [CB.out.1] at q4; exact q4⟩
      have hb5 : 480 ≤ ec := by omega
      have hb8 : 511 ≤ bc := by omega
      have hb9 : ¬ (ec : Int) < 480 := by omega
      have hb10 : ¬ (bc : Int) < 511 := by omega
      obtain ⟨D0, hD0⟩ : ∃ D, D = row8 (List.replicate 32 0) := ⟨_, rfl⟩
      have hzD : ∀ w, (zeroValue 24).run Tryd.prog w = .ok (.agg D0.toArray) w := by rw [hD0]; exact zeroSum
      have D32 := Lib.hid (show D0.length = 32 by rw [hD0, row8_len, List.length_replicate])
      have F1 := Lib.hid (show (row8 M1).length = 32 by rw [row8_len, MB1.out.1])
      clear hD0 hBD
      refine wp_region_g (by kernel_rfl) 6 (by decide) (by kernel_rfl) (by kernel_rfl) (by kernel_rfl) (w6.heap.size) (Nat.le_refl _) [.val (.slice (some ⟨w.heap.size + 1, 0, none⟩) 32 32), .val (.slice (some ⟨eb, 0, none⟩) 512 ec), .val (.slice (some ⟨eb, 0, none⟩) 480 ec), .rds ([BD]), .val (.agg (row8 M1).toArray), .blk 24 D0] (fun _ => 7) ?_ ?_
      · refine ⟨?_, ?_, ?_, ?_, ?_, ?_, trivial⟩
        · intro a w' hF hB hd
          have e4 : a.eval (.tmp 4) = .pointer (some ⟨w.heap.size + 1, 0, none⟩) := hF 4 (by decide +kernel)
          exact doesG_val rfl (v := .slice (some ⟨w.heap.size + 1, 0, none⟩) 32 32) (by unfold execOp; simp only [e4]; go_simp) rfl rfl
        · intro a w' hF hB hd
          have e10 : a.eval (.tmp 10) = .slice (some ⟨eb, 0, none⟩) 512 ec := hF 10 (by decide +kernel)
          exact doesG_val rfl (ex_move rfl e10) rfl rfl
        · intro a w' hF hB hd
          have e64 : a.eval (.tmp 64) = .slice (some ⟨eb, 0, none⟩) 512 ec := hd 1 (by decide +kernel) (.inr (by decide))
          exact doesG_val rfl (v := .slice (some ⟨eb, 0, none⟩) 480 ec) (by unfold execOp; simp only [e64]; go_simp) rfl rfl
        · intro a w' hF hB hd
          have e65 : a.eval (.tmp 65) = .slice (some ⟨eb, 0, none⟩) 480 ec := hd 2 (by decide +kernel) (.inr (by decide))
          exact doesG_one rfl 65 rfl e65 _ (R480.out.below hB) (fun h g hg => HOV.out h g hg) (fun _ _ h => h)
        · intro a w' hF hB hd
          have e63 : a.eval (.tmp 63) = .slice (some ⟨w.heap.size + 1, 0, none⟩) 32 32 := hd 0 (by decide +kernel) (.inr (by decide))
          have e66 : Olds w6.heap.size (a.eval (.tmp 66)) ([BD]) w' := hd 3 (by decide +kernel) (.inr (by decide))
          exact doesG_call rfl (ex_call (vs := #[.slice (some ⟨w.heap.size + 1, 0, none⟩) 32 32, a.eval (.tmp 66)]) rfl (by simp only [List.map_toArray, List.map_cons, List.map_nil, e63]) (by go_simp)) rfl ((hof_any l1 [BD] (by rw [List.flatten_cons, List.flatten_nil, List.append_nil, BO.out]; decide) _ _ w' (RK6.out.below hB) e66.rds (HT6.out.below hB)).mono fun e w2 hh => ⟨_, by rw [hh.1, List.flatten_cons, List.flatten_nil, List.append_nil, ← HM1.out], rfl, hh.2⟩)
        · intro a w' hF hB hd
          exact doesG_alloc rfl 24 D0 rfl hzD hB.size rfl
      · intro vs w7 hb hv hap
        have e67 : vs 4 = .agg (row8 M1).toArray := hv 4 (by decide) (by decide)
        obtain ⟨sb, e13, hs1, hs2⟩ : ∃ c, vs 5 = .pointer (some ⟨c, 0, none⟩) ∧ w6.heap.size ≤ c ∧ Blk w7 c 24 D0 := hv 5 (by decide) (by decide)
        simp only [List.take_succ_cons, List.take_zero, List.drop_succ_cons, List.drop_zero, putOps, Act.put, List.setIfInBounds_toArray, List.set_cons_zero, List.set_cons_succ, e67, e13]
        have W7 := Lib.hid (W6.out.on hb)
        have K7 := Lib.hid (K6.out.below hb K6.out.lt)
        have B7 := Lib.hid (B6.out.below hb)
        have C7 := Lib.hid (C6.out.below hb)
        have P7 := Lib.hid (P6.out.below hb)
        have D7 := Lib.hid (D6.out.below hb D6.out.lt)
        have S7 := Lib.hid hs2
        have SL := Lib.hid hs1
        have Z6 := Lib.hid W6.out.size
        have OBB := Lib.hid (fun g hg => B6.out.old (by rw [L1.out.1]; decide) g hg)
        have OCC := Lib.hid (fun g hg => C6.out.old (by rw [CB.out.1]; decide) g hg)
        have XLT := Lib.hid (show w.heap.size + 1 < w6.heap.size ∧ db < w6.heap.size from ⟨K6.out.lt, D6.out.lt⟩)
        clear hv hap hb e67 e13 hs1 hs2 HT6 RK6 R480 HOV
        generalize vs 0 = y0
        generalize vs 1 = y1
        generalize vs 2 = y2
        generalize vs 3 = y3
        go_upto_region 11 with ((with_reducible show wpList _ _ _ (Oper.mk _ (.store _ (.tmp 13) (.tmp 67)) _ _ _ _ :: _) _ _); refine wpList_store_blk rfl 24 (.tmp 13) (.tmp 67) rfl sb 0 (row8 M1) rfl rfl 24 D0 S7.out (by have := F1.out; have := D32.out; omega) (by rw [F1.out]; exact infoS) (row8_one _) ?_; intro w8 b' g'; rw [splice_all _ _ (by have := F1.out; have := D32.out; omega)] at b'; have S8 := Lib.hid b'; have W8 := Lib.hid (W7.out.grown g' W7.out.size (fun q e => by have := SL.out; have := Z6.out; have := Option.some.inj e; omega)); have K8 := Lib.hid (K7.out.grown g' (fun e => by have := SL.out; have := XLT.out.1; have := Option.some.inj e; omega)); have D8 := Lib.hid (D7.out.grown g' (fun e => by have := SL.out; have := XLT.out.2; have := Option.some.inj e; omega)); have B8 := Lib.hid (B7.out.grown g' (.inr (OBB.out sb SL.out))); have C8 := Lib.hid (C7.out.grown g' (.inr (OCC.out sb SL.out))); have P8 := Lib.hid (P7.out.grown g' (.inr (fun e => by have := DL.out _ e; have := XLT.out.2; have := SL.out; omega))); clear b' g')
        clear W6 K6 B6 C6 P6 D6 W7 K7 B7 C7 P7 D7 S7
        have HT8 := Lib.hid (HT.out.below W8.out)
        have ZL := Lib.hid (fun u => rtc_len zero_ok u)
        have HBZ := Lib.hid (show Tryd.prog.built 27 [] = some Z0.toArray by rw [HZ0.out]; exact builtRt)
        have R511 := Lib.hid (show Rd w8 (.slice (some ⟨bb, 0, none⟩) 511 bc) (B.take 511) from B8.out.take 511 (by rw [L1.out.1]; decide))
        have HGS := fun W (hW : Below w8.heap.size w8 W) => HGT.out (B.take 511) l1 HK.out W _ (R511.out.below hW) (HT8.out.below hW)
        have g511 := got_short (b := B.take 511) (by rw [List.length_take, L1.out.1]; decide) l1
        rw [g511.1, g511.2, ← HKC.out] at HGS
        have HGS' := Lib.hid HGS
        clear HGS
        have HGS := HGS'
        clear HGS'
        clear g511
        refine wp_region_s (by kernel_rfl) 10 (by decide) (fun i => [69, 70, 71, 72, 68, 73, 74, 14, 14, 15].getD i 0) (by kernel_rfl) (by kernel_rfl) (by kernel_rfl) (w8.heap.size) (Nat.le_refl _) [.val (.slice (some ⟨bb, 0, none⟩) 512 bc), .val (.slice (some ⟨bb, 0, none⟩) 511 bc), .val (.agg KC.toArray), .told (fun v => ∃ (xa : Option Addr) (xq : Nat), v = .tuple #[.agg (rtc zero (.slice xa 0 xq)).toArray, .int .i64 4]), .told (fun v => ∃ (xa : Option Addr) (xq : Nat), v = .tuple #[.agg (rtc zero (.slice xa 0 xq)).toArray, .int .i64 4]), .told (fun v => ∃ (xa : Option Addr) (xq : Nat), v = .agg (rtc zero (.slice xa 0 xq)).toArray), .val (.int .i64 4), .blk 27 Z0, .blkX 27, .val (.int .i64 4)] (fun j => if j = 7 then 8 else 10) ?_ ?_
        · refine ⟨?_, ?_, ?_, ?_, ?_, ?_, ?_, ?_, ?_, ?_, trivial⟩
          · intro a w' hF hB hd
            have e7 : a.eval (.tmp 7) = .slice (some ⟨bb, 0, none⟩) 512 bc := hF 7 (by decide +kernel)
            exact DoesG.toS (doesG_val rfl (ex_move rfl e7) rfl rfl) nofun (by decide +kernel)
          · intro a w' hF hB hd
            have e69 : a.eval (.tmp 69) = .slice (some ⟨bb, 0, none⟩) 512 bc := hd 0 (by decide +kernel) (.inr (by decide))
            exact DoesG.toS (doesG_val rfl (v := .slice (some ⟨bb, 0, none⟩) 511 bc) (by unfold execOp; simp only [e69]; go_simp) rfl rfl) nofun (by decide +kernel)
          · intro a w' hF hB hd
            have e4 : a.eval (.tmp 4) = .pointer (some ⟨w.heap.size + 1, 0, none⟩) := hF 4 (by decide +kernel)
            exact DoesG.toS (doesG_val rfl (v := .agg KC.toArray) (ex_load_part 28 (.tmp 4) rfl (w.heap.size + 1) 0 e4 KC _ (K8.out.below hB K8.out.lt).range Tryd.underlying28 rfl (by rw [K32.out]; exact infoKeyA)) rfl rfl) nofun (by decide +kernel)
          · intro a w' hF hB hd
            have e70 : a.eval (.tmp 70) = .slice (some ⟨bb, 0, none⟩) 511 bc := hd 1 (by decide +kernel) (.inr (by decide))
            have e71 : a.eval (.tmp 71) = .agg KC.toArray := hd 2 (by decide +kernel) (.inr (by decide))
            exact DoesG.toS (doesG_call rfl (ex_call (vs := #[.slice (some ⟨bb, 0, none⟩) 511 bc, .agg KC.toArray]) rfl (by simp only [List.map_toArray, List.map_cons, List.map_nil, e70, e71]) (by go_simp)) rfl ((HGS.out w' hB).mono fun e w2 hh => told4 hh)) nofun (by decide +kernel)
          · intro a w' hF hB hd
            obtain ⟨xa, xq, e72⟩ : ∃ (xa : Option Addr) (xq : Nat), a.eval (.tmp 72) = .tuple #[.agg (rtc zero (.slice xa 0 xq)).toArray, .int .i64 4] := hd 3 (by decide +kernel) (.inr (by decide))
            exact DoesG.toS (doesG_val rfl (ex_move rfl e72) ⟨xa, xq, rfl⟩ rfl) nofun (by decide +kernel)
          · intro a w' hF hB hd
            obtain ⟨xa, xq, e68⟩ : ∃ (xa : Option Addr) (xq : Nat), a.eval (.tmp 68) = .tuple #[.agg (rtc zero (.slice xa 0 xq)).toArray, .int .i64 4] := hd 4 (by decide +kernel) (.inr (by decide))
            exact DoesG.toS (doesG_val rfl (v := .agg (rtc zero (.slice xa 0 xq)).toArray) (by unfold execOp; simp only [e68]; go_simp) ⟨xa, xq, rfl⟩ rfl) nofun (by decide +kernel)
          · intro a w' hF hB hd
            obtain ⟨xa, xq, e68⟩ : ∃ (xa : Option Addr) (xq : Nat), a.eval (.tmp 68) = .tuple #[.agg (rtc zero (.slice xa 0 xq)).toArray, .int .i64 4] := hd 4 (by decide +kernel) (.inr (by decide))
            exact DoesG.toS (doesG_val rfl (v := .int .i64 4) (by unfold execOp; simp only [e68]; go_simp) rfl rfl) nofun (by decide +kernel)
          · intro a w' hF hB hd
            exact DoesG.toS (doesG_alloc rfl 27 Z0 rfl hz hB.size rfl) nofun (by decide +kernel)
          · intro a w' hF hB hd
            have e14 := hd 7 (by decide +kernel) (.inl (by decide))
            obtain ⟨xa, xq, e73⟩ : ∃ (xa : Option Addr) (xq : Nat), a.eval (.tmp 73) = .agg (rtc zero (.slice xa 0 xq)).toArray := hd 5 (by decide +kernel) (.inr (by decide))
            exact doesS_storeX rfl 27 27 14 (.tmp 73) rfl rfl 7 (by decide +kernel) (by decide) Z0 (rtc zero (.slice xa 0 xq)) rfl rfl rfl e14 e73 (by have := ZL.out (.slice xa 0 xq); have := Z68.out; omega) (by rw [ZL.out]; exact infoRtC) (rt_one _ _ _ _) rfl
          · intro a w' hF hB hd
            have e74 : a.eval (.tmp 74) = .int .i64 4 := hd 6 (by decide +kernel) (.inr (by decide))
            exact DoesG.toS (doesG_val rfl (ex_assign rfl e74) rfl rfl) nofun (by decide +kernel)
        · intro vs w9 hb hS hv hap
          have eE : vs 9 = .int .i64 4 := hv 9 (by decide) (by decide)
          simp only [List.take_succ_cons, List.take_zero, List.drop_succ_cons, List.drop_zero, putOps, Act.put, List.setIfInBounds_toArray, List.set_cons_zero, List.set_cons_succ, eE]
          have W9 := Lib.hid (W8.out.on hb)
          have K9 := Lib.hid (K8.out.below hb K8.out.lt)
          have D9 := Lib.hid (D8.out.below hb D8.out.lt)
          have B9 := Lib.hid (B8.out.below hb)
          have C9 := Lib.hid (C8.out.below hb)
          have P9 := Lib.hid (P8.out.below hb)
          have S9 := Lib.hid (S8.out.below hb S8.out.lt)
          clear hv hap hb eE hS
          generalize vs 0 = y0
          generalize vs 1 = y1
          generalize vs 2 = y2
          generalize vs 3 = y3
          generalize vs 4 = y4
          generalize vs 5 = y5
          generalize vs 6 = y6
          generalize vs 7 = y7
          generalize vs 8 = y8
          go_upto_region 12 with fail
          clear W8 K8 D8 B8 C8 P8 S8 HT8 R511 HGS
          have HT9 := Lib.hid (HT.out.below W9.out)
          have HGB := fun W v hv hW => HGT.out ([] ++ B ++ [0]) l1 HK.out W v hv hW
          have g513 := got_short (b := [] ++ B ++ [0]) (by rw [List.nil_append, List.length_append, L1.out.1]; decide) l1
          rw [g513.1, g513.2, ← HKC.out] at HGB
          have HGB' := Lib.hid HGB
          clear HGB
          have HGB := HGB'
          clear HGB'
          clear g513
          refine wp_region_s (by kernel_rfl) 13 (by decide) (fun i => [76, 77, 78, 79, 80, 81, 82, 75, 83, 84, 16, 16, 17].getD i 0) (by kernel_rfl) (by kernel_rfl) (by kernel_rfl) (w9.heap.size) (Nat.le_refl _) [.own ([]), .val (.slice (some ⟨bb, 0, none⟩) 512 bc), .own ([] ++ B), .own ([0]), .own ([] ++ B ++ [0]), .val (.agg KC.toArray), .told (fun v => ∃ (xa : Option Addr) (xq : Nat), v = .tuple #[.agg (rtc zero (.slice xa 0 xq)).toArray, .int .i64 4]), .told (fun v => ∃ (xa : Option Addr) (xq : Nat), v = .tuple #[.agg (rtc zero (.slice xa 0 xq)).toArray, .int .i64 4]), .told (fun v => ∃ (xa : Option Addr) (xq : Nat), v = .agg (rtc zero (.slice xa 0 xq)).toArray), .val (.int .i64 4), .blk 27 Z0, .blkX 27, .val (.int .i64 4)] (fun j => if j = 10 then 11 else if j = 2 then 4 else if j = 0 then 2 else 13) ?_ ?_
          · refine ⟨?_, ?_, ?_, ?_, ?_, ?_, ?_, ?_, ?_, ?_, ?_, ?_, ?_, trivial⟩
            · intro a w' hF hB hd
              exact DoesG.toS (doesG_empty rfl rfl hB.size (fun _ _ h => h)) nofun (by decide +kernel)
            · intro a w' hF hB hd
              have e7 : a.eval (.tmp 7) = .slice (some ⟨bb, 0, none⟩) 512 bc := hF 7 (by decide +kernel)
              exact DoesG.toS (doesG_val rfl (ex_move rfl e7) rfl rfl) nofun (by decide +kernel)
            · intro a w' hF hB hd
              have e76 : Own w' w9.heap.size (a.eval (.tmp 76)) ([]) := hd 0 (by decide +kernel) (.inl (by decide))
              have e77 : a.eval (.tmp 77) = .slice (some ⟨bb, 0, none⟩) 512 bc := hd 1 (by decide +kernel) (.inr (by decide))
              exact DoesG.toS (doesG_app rfl (.tmp 76) (.tmp 77) rfl 0 (by decide +kernel) rfl rfl _ _ _ _ rfl rfl e77 e76 (B9.out.below hB) (by simp [L1.out.1]) hB.size (fun _ _ h => h)) nofun (by decide +kernel)
            · intro a w' hF hB hd
              exact DoesG.toS (doesG_byte rfl 0 (by decide) rfl hB.size (fun _ _ h => h)) nofun (by decide +kernel)
            · intro a w' hF hB hd
              have e78 : Own w' w9.heap.size (a.eval (.tmp 78)) ([] ++ B) := hd 2 (by decide +kernel) (.inl (by decide))
              have e79 : Own w' w9.heap.size (a.eval (.tmp 79)) ([0]) := hd 3 (by decide +kernel) (.inr (by decide))
              exact DoesG.toS (doesG_app rfl (.tmp 78) (.tmp 79) rfl 2 (by decide +kernel) rfl rfl _ _ _ _ rfl rfl rfl e78 e79.rd (by simp [L1.out.1]) hB.size (fun _ _ h => h)) nofun (by decide +kernel)
            · intro a w' hF hB hd
              have e4 : a.eval (.tmp 4) = .pointer (some ⟨w.heap.size + 1, 0, none⟩) := hF 4 (by decide +kernel)
              exact DoesG.toS (doesG_val rfl (v := .agg KC.toArray) (ex_load_part 28 (.tmp 4) rfl (w.heap.size + 1) 0 e4 KC _ (K9.out.below hB K9.out.lt).range Tryd.underlying28 rfl (by rw [K32.out]; exact infoKeyA)) rfl rfl) nofun (by decide +kernel)
            · intro a w' hF hB hd
              have e80 : Own w' w9.heap.size (a.eval (.tmp 80)) ([] ++ B ++ [0]) := hd 4 (by decide +kernel) (.inr (by decide))
              have e81 : a.eval (.tmp 81) = .agg KC.toArray := hd 5 (by decide +kernel) (.inr (by decide))
              exact DoesG.toS (doesG_call rfl (ex_call (vs := #[a.eval (.tmp 80), .agg KC.toArray]) rfl (by simp only [List.map_toArray, List.map_cons, List.map_nil, e81]) (by go_simp)) rfl ((HGB.out w' _ e80.rd (HT9.out.below hB)).mono fun e w2 hh => told4 hh)) nofun (by decide +kernel)
            · intro a w' hF hB hd
              obtain ⟨xa, xq, e82⟩ : ∃ (xa : Option Addr) (xq : Nat), a.eval (.tmp 82) = .tuple #[.agg (rtc zero (.slice xa 0 xq)).toArray, .int .i64 4] := hd 6 (by decide +kernel) (.inr (by decide))
              exact DoesG.toS (doesG_val rfl (ex_move rfl e82) ⟨xa, xq, rfl⟩ rfl) nofun (by decide +kernel)
            · intro a w' hF hB hd
              obtain ⟨xa, xq, e75⟩ : ∃ (xa : Option Addr) (xq : Nat), a.eval (.tmp 75) = .tuple #[.agg (rtc zero (.slice xa 0 xq)).toArray, .int .i64 4] := hd 7 (by decide +kernel) (.inr (by decide))
              exact DoesG.toS (doesG_val rfl (v := .agg (rtc zero (.slice xa 0 xq)).toArray) (by unfold execOp; simp only [e75]; go_simp) ⟨xa, xq, rfl⟩ rfl) nofun (by decide +kernel)
            · intro a w' hF hB hd
              obtain ⟨xa, xq, e75⟩ : ∃ (xa : Option Addr) (xq : Nat), a.eval (.tmp 75) = .tuple #[.agg (rtc zero (.slice xa 0 xq)).toArray, .int .i64 4] := hd 7 (by decide +kernel) (.inr (by decide))
              exact DoesG.toS (doesG_val rfl (v := .int .i64 4) (by unfold execOp; simp only [e75]; go_simp) rfl rfl) nofun (by decide +kernel)
            · intro a w' hF hB hd
              exact DoesG.toS (doesG_alloc rfl 27 Z0 rfl hz hB.size rfl) nofun (by decide +kernel)
            · intro a w' hF hB hd
              have e16 := hd 10 (by decide +kernel) (.inl (by decide))
              obtain ⟨xa, xq, e83⟩ : ∃ (xa : Option Addr) (xq : Nat), a.eval (.tmp 83) = .agg (rtc zero (.slice xa 0 xq)).toArray := hd 8 (by decide +kernel) (.inr (by decide))
              exact doesS_storeX rfl 27 27 16 (.tmp 83) rfl rfl 10 (by decide +kernel) (by decide) Z0 (rtc zero (.slice xa 0 xq)) rfl rfl rfl e16 e83 (by have := ZL.out (.slice xa 0 xq); have := Z68.out; omega) (by rw [ZL.out]; exact infoRtC) (rt_one _ _ _ _) rfl
            · intro a w' hF hB hd
              have e84 : a.eval (.tmp 84) = .int .i64 4 := hd 9 (by decide +kernel) (.inr (by decide))
              exact DoesG.toS (doesG_val rfl (ex_assign rfl e84) rfl rfl) nofun (by decide +kernel)
          · intro vs w10 hb hS hv hap
            have eE : vs 12 = .int .i64 4 := hv 12 (by decide) (by decide)
            simp only [List.take_succ_cons, List.take_zero, List.drop_succ_cons, List.drop_zero, putOps, Act.put, List.setIfInBounds_toArray, List.set_cons_zero, List.set_cons_succ, eE]
            have W10 := Lib.hid (W9.out.on hb)
            have K10 := Lib.hid (K9.out.below hb K9.out.lt)
            have D10 := Lib.hid (D9.out.below hb D9.out.lt)
            have B10 := Lib.hid (B9.out.below hb)
            have C10 := Lib.hid (C9.out.below hb)
            have P10 := Lib.hid (P9.out.below hb)
            have S10 := Lib.hid (S9.out.below hb S9.out.lt)
            clear hv hap hb eE hS
            generalize vs 0 = y0
            generalize vs 1 = y1
            generalize vs 2 = y2
            generalize vs 3 = y3
            generalize vs 4 = y4
            generalize vs 5 = y5
            generalize vs 6 = y6
            generalize vs 7 = y7
            generalize vs 8 = y8
            generalize vs 9 = y9
            generalize vs 10 = y10
            generalize vs 11 = y11
            go_upto_region 13 with fail
            clear W9 K9 D9 B9 C9 P9 S9 HT9 HGB
            have HT10 := Lib.hid (HT.out.below W10.out)
            have RS10 := Lib.hid (blk_rd_at S10.out MB1.out.2 0 32 32 (by rw [MB1.out.1]; decide) (Nat.le_refl _) (by rw [MB1.out.1]; decide))
            rw [show (M1.drop 0).take 32 = M1 by rw [List.drop_zero, List.take_of_length_le (by rw [MB1.out.1]; exact Nat.le_refl _)]] at RS10
            obtain ⟨S, hS⟩ : ∃ S : ByteArray, S = bstr M1 := ⟨_, rfl⟩
            have HS := Lib.hid hS
            have HE := Lib.hid (fun W => (show (binOp .eql 9 (.string S) (.string S)).run Tryd.prog W = .ok (.bool true) W by rw [run_eql_str, decide_eq_true rfl]))
            have hb6 : ¬ ec < 480 := by omega
            have hb7 : ¬ ec = 480 := by omega
            clear hS
            cases sl with
            | true =>
              have hgn := GN.out rfl
              have g1 : (g == 40) = false := by rw [beq_eq_false_iff_ne]; exact hgn
              have hsq := SEQ.out rfl
              have RD10 := Lib.hid (show Rd w10 (.slice (some ⟨eb, 480, none⟩) 32 (ec - 480)) M1 by
                have h := C10.out.drop 480 (by rw [CB.out.1]; decide)
                rw [if_neg (by omega), CB.out.1, ← hsq] at h
                have e : (⟨eb, 0, none⟩ : Addr).add 480 = ⟨eb, 480, none⟩ := by rw [Addr.add_lit, Nat.zero_add]
                simp only [Option.map, e] at h
                exact h)
              clear hgn hsq
              refine wp_region_g (by kernel_rfl) 27 (by decide) (by kernel_rfl) (by kernel_rfl) (by kernel_rfl) (w10.heap.size) (Nat.le_refl _) [.val (.int .i64 g), .val (.bool false), .val (.bool false), .val undef, .val undef, .val undef, .val (.bool false), .val (.bool false), .val (.slice (some ⟨sb, 0, none⟩) 32 32), .val (.string S), .val (.slice (some ⟨eb, 0, none⟩) 512 ec), .val (.slice (some ⟨eb, 480, none⟩) 32 (ec - 480)), .val (.string S), .val (.bool true), .val (.bool true), .val (.bool true), .val (.int .i64 4), .val (.bool true), .val (.bool true), .val (.bool true), .val (.int .i64 4), .val (.bool true), .val (.bool true), .val (.bool true), .val (.bool true), .val (.bool true), .val (.bool true)] (fun _ => 27) ?_ ?_
              · refine ⟨?_, ?_, ?_, ?_, ?_, ?_, ?_, ?_, ?_, ?_, ?_, ?_, ?_, ?_, ?_, ?_, ?_, ?_, ?_, ?_, ?_, ?_, ?_, ?_, ?_, ?_, ?_, trivial⟩
                · intro a w' hF hB hd
                  have e12 : a.eval (.tmp 12) = .int .i64 g := hF 12 (by decide +kernel)
                  exact doesG_val rfl (ex_move rfl e12) rfl rfl
                · intro a w' hF hB hd
                  have e85 : a.eval (.tmp 85) = .int .i64 g := hd 0 (by decide +kernel) (.inr (by decide))
                  exact doesG_val rfl (ex_binOp rfl e85 rfl (by go_simp) (by go_simp)) rfl rfl
                · intro a w' hF hB hd
                  have e86 : a.eval (.tmp 86) = .bool false := hd 1 (by decide +kernel) (.inr (by decide))
                  exact doesG_val rfl (ex_move rfl e86) rfl rfl
                · intro a w' hF hB hd
                  have e87 : a.eval (.tmp 87) = .bool false := hd 2 (by decide +kernel) (.inr (by decide))
                  exact doesG_skip (unwanted_of rfl (yielded_of rfl e87) (by decide)) rfl
                · intro a w' hF hB hd
                  have e87 : a.eval (.tmp 87) = .bool false := hd 2 (by decide +kernel) (.inr (by decide))
                  exact doesG_skip (unwanted_of rfl (yielded_of rfl e87) (by decide)) rfl
                · intro a w' hF hB hd
                  have e87 : a.eval (.tmp 87) = .bool false := hd 2 (by decide +kernel) (.inr (by decide))
                  exact doesG_skip (unwanted_of rfl (yielded_of rfl e87) (by decide)) rfl
                · intro a w' hF hB hd
                  have e87 : a.eval (.tmp 87) = .bool false := hd 2 (by decide +kernel) (.inr (by decide))
                  exact doesG_val rfl (ex_pick rfl e87 (rfl)) rfl rfl
                · intro a w' hF hB hd
                  have e91 : a.eval (.tmp 91) = .bool false := hd 6 (by decide +kernel) (.inr (by decide))
                  exact doesG_val rfl (ex_move rfl e91) rfl rfl
                · intro a w' hF hB hd
                  have e92 : a.eval (.tmp 92) = .bool false := hd 7 (by decide +kernel) (.inr (by decide))
                  have e13 : a.eval (.tmp 13) = .pointer (some ⟨sb, 0, none⟩) := hF 13 (by decide +kernel)
                  exact doesG_val (wanted_of rfl (yielded_of rfl e92)) (v := .slice (some ⟨sb, 0, none⟩) 32 32) (by unfold execOp; simp only [e13]; go_simp) rfl rfl
                · intro a w' hF hB hd
                  have e92 : a.eval (.tmp 92) = .bool false := hd 7 (by decide +kernel) (.inr (by decide))
                  have e93 : a.eval (.tmp 93) = .slice (some ⟨sb, 0, none⟩) 32 32 := hd 8 (by decide +kernel) (.inr (by decide))
                  exact doesG_val (wanted_of rfl (yielded_of rfl e92)) (ex_convert rfl e93 (by rw [HS.out]; exact (RS10.out.below hB).str)) rfl rfl
                · intro a w' hF hB hd
                  have e92 : a.eval (.tmp 92) = .bool false := hd 7 (by decide +kernel) (.inr (by decide))
                  have e10 : a.eval (.tmp 10) = .slice (some ⟨eb, 0, none⟩) 512 ec := hF 10 (by decide +kernel)
                  exact doesG_val (wanted_of rfl (yielded_of rfl e92)) (ex_move rfl e10) rfl rfl
                · intro a w' hF hB hd
                  have e92 : a.eval (.tmp 92) = .bool false := hd 7 (by decide +kernel) (.inr (by decide))
                  have e95 : a.eval (.tmp 95) = .slice (some ⟨eb, 0, none⟩) 512 ec := hd 10 (by decide +kernel) (.inr (by decide))
                  exact doesG_val (wanted_of rfl (yielded_of rfl e92)) (v := .slice (some ⟨eb, 480, none⟩) 32 (ec - 480)) (by unfold execOp; simp only [e95]; go_simp) rfl rfl
                · intro a w' hF hB hd
                  have e92 : a.eval (.tmp 92) = .bool false := hd 7 (by decide +kernel) (.inr (by decide))
                  have e96 : a.eval (.tmp 96) = .slice (some ⟨eb, 480, none⟩) 32 (ec - 480) := hd 11 (by decide +kernel) (.inr (by decide))
                  exact doesG_val (wanted_of rfl (yielded_of rfl e92)) (ex_convert rfl e96 (by rw [HS.out]; exact (RD10.out.below hB).str)) rfl rfl
                · intro a w' hF hB hd
                  have e92 : a.eval (.tmp 92) = .bool false := hd 7 (by decide +kernel) (.inr (by decide))
                  have e94 : a.eval (.tmp 94) = .string S := hd 9 (by decide +kernel) (.inr (by decide))
                  have e97 : a.eval (.tmp 97) = .string S := hd 12 (by decide +kernel) (.inr (by decide))
                  exact doesG_val (wanted_of rfl (yielded_of rfl e92)) (ex_binOp rfl e94 e97 (by go_simp) (HE.out w')) rfl rfl
                · intro a w' hF hB hd
                  have e92 : a.eval (.tmp 92) = .bool false := hd 7 (by decide +kernel) (.inr (by decide))
                  have e98 : a.eval (.tmp 98) = .bool true := hd 13 (by decide +kernel) (.inr (by decide))
                  exact doesG_val rfl (ex_pick rfl e92 (by simp [e98])) rfl rfl
                · intro a w' hF hB hd
                  have e99 : a.eval (.tmp 99) = .bool true := hd 14 (by decide +kernel) (.inr (by decide))
                  exact doesG_val rfl (ex_move rfl e99) rfl rfl
                · intro a w' hF hB hd
                  have e100 : a.eval (.tmp 100) = .bool true := hd 15 (by decide +kernel) (.inr (by decide))
                  have e15 : a.eval (.tmp 15) = .int .i64 4 := hF 15 (by decide +kernel)
                  exact doesG_val (wanted_of rfl (yielded_of rfl e100)) (ex_move rfl e15) rfl rfl
                · intro a w' hF hB hd
                  have e100 : a.eval (.tmp 100) = .bool true := hd 15 (by decide +kernel) (.inr (by decide))
                  have e101 : a.eval (.tmp 101) = .int .i64 4 := hd 16 (by decide +kernel) (.inr (by decide))
                  exact doesG_val (wanted_of rfl (yielded_of rfl e100)) (ex_binOp rfl e101 rfl (by go_simp) (by go_simp)) rfl rfl
                · intro a w' hF hB hd
                  have e100 : a.eval (.tmp 100) = .bool true := hd 15 (by decide +kernel) (.inr (by decide))
                  have e102 : a.eval (.tmp 102) = .bool true := hd 17 (by decide +kernel) (.inr (by decide))
                  exact doesG_val rfl (ex_pick rfl e100 (by simp [e102])) rfl rfl
                · intro a w' hF hB hd
                  have e103 : a.eval (.tmp 103) = .bool true := hd 18 (by decide +kernel) (.inr (by decide))
                  exact doesG_val rfl (ex_move rfl e103) rfl rfl
                · intro a w' hF hB hd
                  have e104 : a.eval (.tmp 104) = .bool true := hd 19 (by decide +kernel) (.inr (by decide))
                  have e17 : a.eval (.tmp 17) = .int .i64 4 := hF 17 (by decide +kernel)
                  exact doesG_val (wanted_of rfl (yielded_of rfl e104)) (ex_move rfl e17) rfl rfl
                · intro a w' hF hB hd
                  have e104 : a.eval (.tmp 104) = .bool true := hd 19 (by decide +kernel) (.inr (by decide))
                  have e105 : a.eval (.tmp 105) = .int .i64 4 := hd 20 (by decide +kernel) (.inr (by decide))
                  exact doesG_val (wanted_of rfl (yielded_of rfl e104)) (ex_binOp rfl e105 rfl (by go_simp) (by go_simp)) rfl rfl
                · intro a w' hF hB hd
                  have e104 : a.eval (.tmp 104) = .bool true := hd 19 (by decide +kernel) (.inr (by decide))
                  have e106 : a.eval (.tmp 106) = .bool true := hd 21 (by decide +kernel) (.inr (by decide))
                  exact doesG_val rfl (ex_pick rfl e104 (by simp [e106])) rfl rfl
                · intro a w' hF hB hd
                  have e107 : a.eval (.tmp 107) = .bool true := hd 22 (by decide +kernel) (.inr (by decide))
                  exact doesG_val rfl (ex_move rfl e107) rfl rfl
                · intro a w' hF hB hd
                  have e108 : a.eval (.tmp 108) = .bool true := hd 23 (by decide +kernel) (.inr (by decide))
                  exact doesG_call (wanted_of rfl (yielded_of rfl e108)) (ex_call (vs := #[]) rfl (by simp) (by go_simp)) rfl ((rtawake_any w' (HT10.out.below hB)).mono fun e w2 hh => ⟨_, hh.1, rfl, hh.2⟩)
                · intro a w' hF hB hd
                  have e108 : a.eval (.tmp 108) = .bool true := hd 23 (by decide +kernel) (.inr (by decide))
                  have e109 : a.eval (.tmp 109) = .bool true := hd 24 (by decide +kernel) (.inr (by decide))
                  exact doesG_val rfl (ex_pick rfl e108 (by simp [e109])) rfl rfl
                · intro a w' hF hB hd
                  have e110 : a.eval (.tmp 110) = .bool true := hd 25 (by decide +kernel) (.inr (by decide))
                  exact doesG_val rfl (ex_assign rfl e110) rfl rfl
              · intro vs w13 hb hv hap
                have e2 : vs 26 = .bool true := hv 26 (by decide) (by decide)
                simp only [List.take_succ_cons, List.take_zero, List.drop_succ_cons, List.drop_zero, putOps, Act.put, List.setIfInBounds_toArray, List.set_cons_zero, List.set_cons_succ, e2]
                have HB := Lib.hid (W10.out.on hb)
                clear hv hap e2 hb
                go_wp2_with fail
                go_ret
                exact ⟨rfl, HB.out⟩
            | false =>
              have gz := GZ.out rfl
              obtain ⟨gz1, gz2⟩ := gz
              subst gz1 gz2
              obtain ⟨XD, hXD⟩ : ∃ x, x = rtc zero (.slice da zero.pages.length dq) := ⟨_, rfl⟩
              have XDL := Lib.hid (show XD.length = 68 by rw [hXD]; exact ZL.out _)
              have HSM := Lib.hid (fun W (hW : Below w10.heap.size w10 W) => (show Calls Tryd.prog 19 #[.agg XD.toArray, .agg Z0.toArray] W fun e w' => e = .returned (.bool true) ∧ Below W.heap.size W w' by rw [hXD, HZ0.out]; exact HSZ.out W _ _ (P10.out.below hW) (RdT.none_ 33 W)))
              rw [← hXD] at D10
              clear hXD
              refine wp_region_g (by kernel_rfl) 27 (by decide) (by kernel_rfl) (by kernel_rfl) (by kernel_rfl) (w10.heap.size) (Nat.le_refl _) [.val (.int .i64 40), .val (.bool true), .val (.bool true), .val (.agg XD.toArray), .val (.agg Z0.toArray), .val (.bool true), .val (.bool true), .val (.bool true), .val undef, .val undef, .val undef, .val undef, .val undef, .val undef, .val (.bool true), .val (.bool true), .val (.int .i64 4), .val (.bool true), .val (.bool true), .val (.bool true), .val (.int .i64 4), .val (.bool true), .val (.bool true), .val (.bool true), .val (.bool true), .val (.bool true), .val (.bool true)] (fun _ => 27) ?_ ?_
              · refine ⟨?_, ?_, ?_, ?_, ?_, ?_, ?_, ?_, ?_, ?_, ?_, ?_, ?_, ?_, ?_, ?_, ?_, ?_, ?_, ?_, ?_, ?_, ?_, ?_, ?_, ?_, ?_, trivial⟩
                · intro a w' hF hB hd
                  have e12 : a.eval (.tmp 12) = .int .i64 40 := hF 12 (by decide +kernel)
                  exact doesG_val rfl (ex_move rfl e12) rfl rfl
                · intro a w' hF hB hd
                  have e85 : a.eval (.tmp 85) = .int .i64 40 := hd 0 (by decide +kernel) (.inr (by decide))
                  exact doesG_val rfl (ex_binOp rfl e85 rfl (by go_simp) (by go_simp)) rfl rfl
                · intro a w' hF hB hd
                  have e86 : a.eval (.tmp 86) = .bool true := hd 1 (by decide +kernel) (.inr (by decide))
                  exact doesG_val rfl (ex_move rfl e86) rfl rfl
                · intro a w' hF hB hd
                  have e87 : a.eval (.tmp 87) = .bool true := hd 2 (by decide +kernel) (.inr (by decide))
                  have e11 : a.eval (.tmp 11) = .pointer (some ⟨db, 0, none⟩) := hF 11 (by decide +kernel)
                  exact doesG_val (wanted_of rfl (yielded_of rfl e87)) (v := .agg XD.toArray) (ex_load_part 27 (.tmp 11) rfl db 0 e11 XD _ (D10.out.below hB D10.out.lt).range Tryd.underlying27 rfl (by rw [XDL.out]; exact infoRtC)) rfl rfl
                · intro a w' hF hB hd
                  have e87 : a.eval (.tmp 87) = .bool true := hd 2 (by decide +kernel) (.inr (by decide))
                  exact doesG_val (wanted_of rfl (yielded_of rfl e87)) (v := .agg Z0.toArray) (ex_build rfl (by simp only [List.map_toArray, List.map_nil]; exact HBZ.out)) rfl rfl
                · intro a w' hF hB hd
                  have e87 : a.eval (.tmp 87) = .bool true := hd 2 (by decide +kernel) (.inr (by decide))
                  have e88 : a.eval (.tmp 88) = .agg XD.toArray := hd 3 (by decide +kernel) (.inr (by decide))
                  have e89 : a.eval (.tmp 89) = .agg Z0.toArray := hd 4 (by decide +kernel) (.inr (by decide))
                  exact doesG_call (wanted_of rfl (yielded_of rfl e87)) (ex_call (vs := #[.agg XD.toArray, .agg Z0.toArray]) rfl (by simp only [List.map_toArray, List.map_cons, List.map_nil, e88, e89]) (by go_simp)) rfl ((HSM.out w' hB).mono fun e w2 hh => ⟨_, hh.1, rfl, hh.2⟩)
                · intro a w' hF hB hd
                  have e87 : a.eval (.tmp 87) = .bool true := hd 2 (by decide +kernel) (.inr (by decide))
                  have e90 : a.eval (.tmp 90) = .bool true := hd 5 (by decide +kernel) (.inr (by decide))
                  exact doesG_val rfl (ex_pick rfl e87 (by simp [e90])) rfl rfl
                · intro a w' hF hB hd
                  have e91 : a.eval (.tmp 91) = .bool true := hd 6 (by decide +kernel) (.inr (by decide))
                  exact doesG_val rfl (ex_move rfl e91) rfl rfl
                · intro a w' hF hB hd
                  have e92 : a.eval (.tmp 92) = .bool true := hd 7 (by decide +kernel) (.inr (by decide))
                  exact doesG_skip (unwanted_of rfl (yielded_of rfl e92) (by decide)) rfl
                · intro a w' hF hB hd
                  have e92 : a.eval (.tmp 92) = .bool true := hd 7 (by decide +kernel) (.inr (by decide))
                  exact doesG_skip (unwanted_of rfl (yielded_of rfl e92) (by decide)) rfl
                · intro a w' hF hB hd
                  have e92 : a.eval (.tmp 92) = .bool true := hd 7 (by decide +kernel) (.inr (by decide))
                  exact doesG_skip (unwanted_of rfl (yielded_of rfl e92) (by decide)) rfl
                · intro a w' hF hB hd
                  have e92 : a.eval (.tmp 92) = .bool true := hd 7 (by decide +kernel) (.inr (by decide))
                  exact doesG_skip (unwanted_of rfl (yielded_of rfl e92) (by decide)) rfl
                · intro a w' hF hB hd
                  have e92 : a.eval (.tmp 92) = .bool true := hd 7 (by decide +kernel) (.inr (by decide))
                  exact doesG_skip (unwanted_of rfl (yielded_of rfl e92) (by decide)) rfl
                · intro a w' hF hB hd
                  have e92 : a.eval (.tmp 92) = .bool true := hd 7 (by decide +kernel) (.inr (by decide))
                  exact doesG_skip (unwanted_of rfl (yielded_of rfl e92) (by decide)) rfl
                · intro a w' hF hB hd
                  have e92 : a.eval (.tmp 92) = .bool true := hd 7 (by decide +kernel) (.inr (by decide))
                  exact doesG_val rfl (ex_pick rfl e92 (rfl)) rfl rfl
                · intro a w' hF hB hd
                  have e99 : a.eval (.tmp 99) = .bool true := hd 14 (by decide +kernel) (.inr (by decide))
                  exact doesG_val rfl (ex_move rfl e99) rfl rfl
                · intro a w' hF hB hd
                  have e100 : a.eval (.tmp 100) = .bool true := hd 15 (by decide +kernel) (.inr (by decide))
                  have e15 : a.eval (.tmp 15) = .int .i64 4 := hF 15 (by decide +kernel)
                  exact doesG_val (wanted_of rfl (yielded_of rfl e100)) (ex_move rfl e15) rfl rfl
                · intro a w' hF hB hd
                  have e100 : a.eval (.tmp 100) = .bool true := hd 15 (by decide +kernel) (.inr (by decide))
                  have e101 : a.eval (.tmp 101) = .int .i64 4 := hd 16 (by decide +kernel) (.inr (by decide))
                  exact doesG_val (wanted_of rfl (yielded_of rfl e100)) (ex_binOp rfl e101 rfl (by go_simp) (by go_simp)) rfl rfl
                · intro a w' hF hB hd
                  have e100 : a.eval (.tmp 100) = .bool true := hd 15 (by decide +kernel) (.inr (by decide))
                  have e102 : a.eval (.tmp 102) = .bool true := hd 17 (by decide +kernel) (.inr (by decide))
                  exact doesG_val rfl (ex_pick rfl e100 (by simp [e102])) rfl rfl
                · intro a w' hF hB hd
                  have e103 : a.eval (.tmp 103) = .bool true := hd 18 (by decide +kernel) (.inr (by decide))
                  exact doesG_val rfl (ex_move rfl e103) rfl rfl
                · intro a w' hF hB hd
                  have e104 : a.eval (.tmp 104) = .bool true := hd 19 (by decide +kernel) (.inr (by decide))
                  have e17 : a.eval (.tmp 17) = .int .i64 4 := hF 17 (by decide +kernel)
                  exact doesG_val (wanted_of rfl (yielded_of rfl e104)) (ex_move rfl e17) rfl rfl
                · intro a w' hF hB hd
                  have e104 : a.eval (.tmp 104) = .bool true := hd 19 (by decide +kernel) (.inr (by decide))
                  have e105 : a.eval (.tmp 105) = .int .i64 4 := hd 20 (by decide +kernel) (.inr (by decide))
                  exact doesG_val (wanted_of rfl (yielded_of rfl e104)) (ex_binOp rfl e105 rfl (by go_simp) (by go_simp)) rfl rfl
                · intro a w' hF hB hd
                  have e104 : a.eval (.tmp 104) = .bool true := hd 19 (by decide +kernel) (.inr (by decide))
                  have e106 : a.eval (.tmp 106) = .bool true := hd 21 (by decide +kernel) (.inr (by decide))
                  exact doesG_val rfl (ex_pick rfl e104 (by simp [e106])) rfl rfl
                · intro a w' hF hB hd
                  have e107 : a.eval (.tmp 107) = .bool true := hd 22 (by decide +kernel) (.inr (by decide))
                  exact doesG_val rfl (ex_move rfl e107) rfl rfl
                · intro a w' hF hB hd
                  have e108 : a.eval (.tmp 108) = .bool true := hd 23 (by decide +kernel) (.inr (by decide))
                  exact doesG_call (wanted_of rfl (yielded_of rfl e108)) (ex_call (vs := #[]) rfl (by simp) (by go_simp)) rfl ((rtawake_any w' (HT10.out.below hB)).mono fun e w2 hh => ⟨_, hh.1, rfl, hh.2⟩)
                · intro a w' hF hB hd
                  have e108 : a.eval (.tmp 108) = .bool true := hd 23 (by decide +kernel) (.inr (by decide))
                  have e109 : a.eval (.tmp 109) = .bool true := hd 24 (by decide +kernel) (.inr (by decide))
                  exact doesG_val rfl (ex_pick rfl e108 (by simp [e109])) rfl rfl
                · intro a w' hF hB hd
                  have e110 : a.eval (.tmp 110) = .bool true := hd 25 (by decide +kernel) (.inr (by decide))
                  exact doesG_val rfl (ex_assign rfl e110) rfl rfl
              · intro vs w13 hb hv hap
                have e2 : vs 26 = .bool true := hv 26 (by decide) (by decide)
                simp only [List.take_succ_cons, List.take_zero, List.drop_succ_cons, List.drop_zero, putOps, Act.put, List.setIfInBounds_toArray, List.set_cons_zero, List.set_cons_succ, e2]
                have HB := Lib.hid (W10.out.on hb)
                clear hv hap e2 hb
                go_wp2_with fail
                go_ret
                exact ⟨rfl, HB.out⟩
set_option maxRecDepth 100000 in
theorem reads (os : Os) {H : Type} (enc : TypeId × Value → H) : ∃ places, DataW.whole enc Tryd.prog ((World.doorLaid Tryd.prog 400 os).forCall (fun _ _ => 0) ⟨#[], #[.agg (RT.rtc RT.zero (.slice none 0 0)).toArray, .agg (row8 (List.replicate 32 0)).toArray, .agg (rowI .u16 (List.replicate 2 0)).toArray], []⟩).memory Tryd.f8.params.toList Rows.rootTurnedSpec.vars false (#[.agg (RT.rtc RT.zero (.slice none 0 0)).toArray, .agg (row8 (List.replicate 32 0)).toArray, .agg (rowI .u16 (List.replicate 2 0)).toArray] : Array Value).toList 8 = some ([litRt, lit8 (List.replicate 32 0), litI .u16 (List.replicate 2 0)], [], places) :=
  ⟨[], by kernel_rfl⟩
set_option maxRecDepth 100000 in
theorem wok (os : Os) : Input.okWideB Tryd.prog ((World.doorLaid Tryd.prog 400 os).forCall (fun _ _ => 0) ⟨#[], #[.agg (RT.rtc RT.zero (.slice none 0 0)).toArray, .agg (row8 (List.replicate 32 0)).toArray, .agg (rowI .u16 (List.replicate 2 0)).toArray], []⟩) 8 ⟨#[], #[.agg (RT.rtc RT.zero (.slice none 0 0)).toArray, .agg (row8 (List.replicate 32 0)).toArray, .agg (rowI .u16 (List.replicate 2 0)).toArray], []⟩ = true := by kernel_rfl
set_option linter.unusedVariables false in
set_option maxHeartbeats 1000000 in
set_option maxRecDepth 100000 in
theorem lifted (os : Os) (started : os.Started) (H : Type) (enc : TypeId × Value → H) (F : Stop.Interp) :
    ReturnsInHanded {} Tryd.checked os 8 .any ((OpenSpec.ofChange Rows.rootTurnedSpec).preRow enc Tryd.prog Tryd.f8 Rows.rootTurnedRow.domain false laidP) (((OpenSpec.ofChange Rows.rootTurnedSpec).at F).post enc Tryd.prog Tryd.f8 false true false false) := by
  obtain ⟨places, hx⟩ := reads os enc
  refine returnsInHanded_of_row (C := Tryd.checked) (s := OpenSpec.ofChange Rows.rootTurnedSpec) own started (by kernel_rfl) Tryd.func8
    (witness_row_atRef (enc := enc) (C := Tryd.checked) false (World.doorLaid Tryd.prog 400 os) #[.agg (RT.rtc RT.zero (.slice none 0 0)).toArray, .agg (row8 (List.replicate 32 0)).toArray, .agg (rowI .u16 (List.replicate 2 0)).toArray] rfl (by kernel_rfl) (by kernel_rfl) (wok os)
      (OpenSpec.preRow_of_cond 8 hx (by kernel_rfl) (fun k hk => by cases hk) (by kernel_rfl) (doorP_met os _))) ?_
  intro W base args ds gs before hval0 hW _ hcond hsz0 hL _ _
  have hsz : (DataW.weightsEach Tryd.prog (Tryd.f8.params.toList ++ Rows.rootTurnedSpec.plain.varTypes Tryd.prog) (ds ++ gs)).all (· ≤ reachBytes) = true := hsz0
  clear hsz0
  have hval : ∀ (j : Nat) t v, Tryd.f8.params[j]? = some t → args[j]? = some v → Value.okWide Tryd.prog W .any base t v := hval0
  have hW' := hW
  obtain ⟨p, q, hA0, hV, rfl, _, _⟩ := hW
  have hA : DataW.TrodAll enc Tryd.prog W 0 (fun _ => true) true Tryd.f8.params.toList args.toList ds p := hA0
  rw [Tryd.params8] at hA hval hsz
  obtain ⟨v0, vs0, d0, ds0, p0, q0, hargs, rfl, rfl, g0, r0⟩ := trodAll_cons hA
  obtain ⟨v1, vs1, d1, ds1, p1, q1, rfl, rfl, rfl, g1, r1⟩ := trodAll_cons r0
  obtain ⟨v2, vs2, d2, ds2, p2, q2, rfl, rfl, rfl, g2, r2⟩ := trodAll_cons r1
  obtain ⟨rfl, rfl, rfl⟩ := trodAll_nil r2
  obtain rfl : args = #[v0, v1, v2] := by cases args; simp_all
  obtain ⟨rfl, rfl⟩ := trodVars_none hV
  obtain ⟨rr0, uu0, rfl, hh0, pp0, kk0⟩ := open_root (hval 0 27 v0 rfl rfl) g0 (fun n hn => by simpa using List.all_eq_true.1 hsz n (DataW.weights_mem_each (j := 0) (t := 27) rfl rfl n hn))
  obtain ⟨l1, h1, rfl, rfl, rfl⟩ := open_row Tryd.underlying28 Tryd.underlying5 cells5 (hval 1 28 v1 rfl rfl) cells28 g1
  obtain ⟨l2, h2, rfl, rfl, rfl⟩ := open_arr Tryd.underlying55 Tryd.underlying54 cells54 (hval 2 55 v2 rfl rfl) cells55 g2
  clear hA0 hval0
  have hlt := hW'.lt
  refine (walk W (tabP_of_laid hL) rr0 uu0 hh0 pp0 kk0 l1 h1 l2 h2).mono fun e W' ⟨he, hb⟩ => ?_
  subst he
  have hargs : DataW.TrodAll enc Tryd.prog W' 0 (fun b => decide (b < W.heap.size)) true _ _ _ _ := (trodAll_cons_mk (Below.trod laidOut (by kernel_rfl) (of_decide_eq_true (by kernel_rfl)) g0 hb (fun x hx => hlt x (by simp [hx]))) (trodAll_cons_mk (shut_row Tryd.underlying28 Tryd.underlying5 cells5 cells28 h1) (trodAll_cons_mk (shut_arr Tryd.underlying55 Tryd.underlying54 cells54 cells55 h2) trodAll_mk0)))
  simp only [List.append_nil] at hW' hargs
  exact ⟨_, rfl, post_law hW' (trodAll_cons_mk (shut_bool Tryd.underlying4 _) trodAll_mk0) hargs rfl hb⟩
theorem over : Rows.rootTurnedRow.holds Tryd.pinned (OpenSpec.ofChange Rows.rootTurnedSpec) :=
  OpenClaim.holds_of_cond 8 Tryd.f8 rfl rfl rfl rfl rfl rfl rfl ⟨rfl, rfl, rfl, rfl, rfl⟩ rfl rfl rfl rfl rfl (by kernel_rfl) Tryd.func8 (by kernel_rfl)
    (of_decide_eq_true (by kernel_rfl)) (by unfold Func.isWrapper; first | (rw [if_pos (by decide +kernel)]; kernel_rfl) | (rw [if_neg (by decide +kernel)]; exact ⟨rfl, rfl⟩))
    (fun os started H enc _ F => by rw [OpenClaim.pre_eq_preRow]; exact lifted os started H enc F)

/-- The given statement. -/
theorem proved : Rows.RootTurnedCardSaid :=
  Claim7.holds_tied_plain_at .later [] _ _ _ _
    over (fun _ h => by cases h) (by kernel_rfl) (fun _ h => by cases h) rootTurned_row_tie rfl ⟨rfl, rfl⟩ (by kernel_rfl) rfl
    (fun f fn hf hfn => by
      obtain rfl : f = 8 := Option.some.inj ((show Tryd.prog.funcNamed "reliquary/reliquarylaw14.RootTurned" = some 8 by kernel_rfl).symm.trans hf) |>.symm
      obtain rfl : fn = Tryd.f8 := (Option.some.inj (Tryd.func8.symm.trans hfn)).symm
      exact ⟨by kernel_rfl, fun j t ht => by
        rw [Tryd.params8] at ht
        have hm : t ∈ [27, 28, 55] := by simpa using Array.mem_of_getElem? ht
        have hall : ([27, 28, 55].all fun u => !Tryd.prog.wantsStandIn u) = true := by kernel_rfl
        exact (show Tryd.prog.wantsStandIn t = false by simpa using List.all_eq_true.1 hall t hm)⟩)
    (by kernel_rfl)
end Go.Proofs.YtenigdbnfepkeaaDoor.rootTurned
