/- Texts of 11 subjects in one file: SpQG, SuM, SuPut, SuSum, ShaFast, SpSums, SpNew, SpQH, SpTame, SpKnown, SpLA. Own work. -/
import Derived.Test.YtflnodkajhokhaaDoorMa10
import Derived.Test.YtflnodkajhokhaaDoorMa7
import Derived.Test.YtflnodkajhokhaaDoorMa2
import Derived.Test.YtflnodkajhokhaaDoorMa9
import Derived.Test.YtflnodkajhokhaaDoorMa1
import Derived.Test.YtflnodkajhokhaaDoorMa5
import Derived.Test.YtflnodkajhokhaaDoorMa6
import Derived.Great.BuildSlice
import Derived.Test.YtflnodkajhokhaaDoorMa8
import Derived.Test.YtflnodkajhokhaaDoorMa0
section
namespace Go.Proofs.YtflnodkajhokhaaDoor
open Go.ChangeShapes Go.WideShapes Go.ChangeAt Go.RowKit
open RT XM AM SM
theorem SP.pput_ok {p : SP.Sp} {S : DM.DS} {n : Nat} (hn : n < 4294967296) {me : Int} {mb fm : List Nat} (hf : Bytes 32 fm) : Pok (SP.pput p S n me mb fm).2.1 := by
  unfold SP.pput
  by_cases h1 : 65535 < n
  . rw [if_pos h1]; exact ND.zp_ok
  . rw [if_neg h1]
    by_cases h2 : me ≠ 0 \/ mb.length ≠ SP.size p
    . rw [if_pos h2]; exact ND.zp_ok
    . rw [if_neg h2]
      unfold SP.put
      rw [if_neg h1]
      split
      . exact ⟨by show n + 1 < 4294967296; omega, hf⟩
      . exact ND.zp_ok
theorem SP.pput_made {p : SP.Sp} {S : DM.DS} {n : Nat} {mb fm : List Nat} (h : mb.length = SP.size p) : SP.pput p S n 0 mb fm = SP.put p S n mb fm := by
  unfold SP.pput
  by_cases h1 : 65535 < n
  . rw [if_pos h1]; unfold SP.put; rw [if_pos h1]
  . rw [if_neg h1, if_neg (fun q => q.elim (fun z => z rfl) (fun z => z h))]
theorem SP.pput_none {p : SP.Sp} {S : DM.DS} {n : Nat} {me : Int} {mb fm : List Nat} (h : me ≠ 0 \/ mb.length ≠ SP.size p) : SP.pput p S n me mb fm = (S, ND.zp, 2) := by
  unfold SP.pput
  rw [if_pos h]
  split <;> rfl
theorem SP.sealed_lenQ {s : SP.Sp} (hs : SP.Ok s) (n : Nat) {b : List Nat} (hb : b.length = SP.size s) : (SP.sealed s n b).length = SP.size s := by
  unfold SP.sealed xseal
  rw [sealTo_len (keys_bytes hs.one) (keys_bytes hs.two), hb]
  unfold SP.size
  omega
theorem SP.pput_page (p : SP.Sp) (S : DM.DS) (n : Nat) (b : List Nat) : SP.pput p S n (SP.padE p b) (SP.padL p b) (SP.psum (SP.padL p b)) = SP.putPage p S n b := by
  unfold SP.padE SP.padL SP.putPage
  by_cases c : b.length <= SP.size p
  . rw [if_pos c, if_pos c, if_neg (Nat.not_lt.2 c)]
    exact SP.pput_made (by rw [padTo_len]; omega)
  . rw [if_neg c, if_neg c, if_pos (Nat.lt_of_not_le c)]
    exact SP.pput_none (.inl (by decide))
theorem SP.pput_node {p : SP.Sp} (hp : SP.Ok p) (S : DM.DS) (n : Nat) {x : List Pg} (hx : ND.Nok x) : SP.pput p S n (SP.padE p (ones x)) (SP.padL p (ones x)) (SP.nsum (SP.padL p (ones x))) = SP.putNode p S n x := by
  have hl : (ones x).length = 288 := ND.ones_len8 hx
  have c : (ones x).length <= SP.size p := by have := SP.size_pos hp; omega
  unfold SP.padE SP.padL SP.putNode SP.nodeBytes
  rw [if_pos c, if_pos c]
  exact SP.pput_made (by rw [padTo_len]; omega)
theorem SP.pput_data {p : SP.Sp} (hp : SP.Ok p) (S : DM.DS) (n m : Nat) (hm : n <= 65535 -> m = n + 1) (b : List Nat) : SP.pput p S n (xerr b.length) (SP.sealL p n b) (SP.leaf p m (SP.sealL p n b)) = SP.putData p S n b := by
  by_cases h1 : 65535 < n
  . unfold SP.pput SP.putData
    rw [if_pos h1, if_pos (.inl h1)]
  rw [hm (by omega)]
  by_cases h2 : b.length = SP.size p
  . have hx : xerr b.length = 0 := by rw [h2]; exact xerr_ok p hp
    have hs : SP.sealL p n b = SP.sealed p n b := by unfold SP.sealL; rw [if_pos hx]
    rw [hs, hx, SP.pput_made (SP.sealed_lenQ hp n h2)]
    unfold SP.putData
    rw [if_neg (by omega)]
  . have hr : SP.putData p S n b = (S, ND.zp, 2) := by unfold SP.putData; rw [if_pos (.inr h2)]
    rw [hr]
    by_cases hx : xerr b.length = 0
    . have hs : SP.sealL p n b = SP.sealed p n b := by unfold SP.sealL; rw [if_pos hx]
      have hl : (SP.sealed p n b).length = b.length := by
        unfold SP.sealed xseal
        rw [sealTo_len (keys_bytes hp.one) (keys_bytes hp.two)]
        unfold xerr at hx
        split at hx
        . exact absurd hx (by decide)
        . omega
      exact SP.pput_none (.inr (by rw [hs, hl]; exact h2))
    . exact SP.pput_none (.inl hx)
set_option maxRecDepth 100000 in
set_option maxHeartbeats 4000000 in
theorem spcputpage_any {s d : Nat} {p : SP.Sp} (hp : SP.Ok p) (B : Nat) (A : Nat -> Prop) (S : DM.DS) (w : World) (hd : Dev B A w d S) (ht : Tame S) (h : Spa (fun k => k < B \/ A k) w s d p) (tt : PTabs (fun k => k < B \/ A k) w) (n : Nat) (hn32 : n < 4294967296) (b : List Nat) (v : Value) (hv : Rd w v b) : Calls Tryd.prog 8 #[.pointer (some ⟨s, 0, none⟩), .int .u32 (n : Int), v] w fun e w' => e = .returned (.tuple #[.agg (pc (SP.putPage p S n b).2.1).toArray, .int .i64 (SP.putPage p S n b).2.2]) /\ Dev B A w' d (SP.putPage p S n b).1 /\ Kept B A w w' := by
  obtain ⟨ba, bc, rfl, _⟩ := hv.shape
  have HFR := Lib.hid (fun k (hk : k < B \/ A k) => (show k ≠ w.heap.size from fun e => by have := hd.old k hk; omega))
  obtain ⟨RZ, hRZ⟩ : ∃ x, x = pc ND.zp := ⟨_, rfl⟩
  have hz : ∀ w, (zeroValue 37).run Tryd.prog w = .ok (.agg RZ.toArray) w := by rw [hRZ]; exact zeroRfP
  have RZ33 := Lib.hid (show RZ.length = 33 by rw [hRZ]; exact pc_len ND.zp_ok)
  obtain ⟨w1, hw1⟩ : ∃ x, x = w.alloc (.cells RZ.toArray 37) := ⟨_, rfl⟩
  have W1 := Lib.hid (show Below w.heap.size w w1 by rw [hw1]; exact (Below.refl w.heap.size w).alloc (Nat.le_refl _) (.cells RZ.toArray 37))
  have R1 := Lib.hid (show Blk w1 w.heap.size 37 RZ by rw [hw1]; exact Blk.new w 37 RZ _ rfl)
  have HPU := Lib.hid (fun W (ba : Option Addr) (bl bc : Nat) b0 b1 (hW : Below w.heap.size w W) (g0 : Blk W b0 30 [.pointer (some ⟨s, 0, none⟩)]) (g1 : Blk W b1 25 [.slice ba bl bc]) (hv : Rd W (.slice ba bl bc) (b)) => spcput_any hp B (fun k => A k \/ (w.heap.size <= k /\ k < W.heap.size)) S W (hd.own hW) ht (h.below hW) n hn32 35 19 #[.pointer (some ⟨b1, 0, none⟩), .pointer (some ⟨b0, 0, none⟩)] #[] (SP.padE p (b)) (SP.padL p (b)) (SP.psum (SP.padL p (b))) (sha_bytes _)
    (fun V => by rw [show (#[] ++ #[.pointer (some ⟨b1, 0, none⟩), .pointer (some ⟨b0, 0, none⟩)] : Array Value) = #[.pointer (some ⟨b1, 0, none⟩), .pointer (some ⟨b0, 0, none⟩)] by simp]; go_simp) (fun v V => by rw [Array.append_empty]; go_simp)
    (fun _ V hV => by rw [show (#[] ++ #[.pointer (some ⟨b1, 0, none⟩), .pointer (some ⟨b0, 0, none⟩)] : Array Value) = #[.pointer (some ⟨b1, 0, none⟩), .pointer (some ⟨b0, 0, none⟩)] by simp]; exact sppadded1_any hp (b) ba bl bc b0 b1 V (h.below (hW.on hV)) (g0.below hV g0.lt) (g1.below hV g1.lt) (hv.below hV))
    (fun _ V v hK hr _ => by rw [Array.append_empty]; exact nppage_any _ v V hr ((tt.below hW).kept hK (fun i hi => hi.imp_right .inl)).p))
  have hok : Pok (SP.putPage p S n b).2.1 := by rw [<- SP.pput_page]; exact SP.pput_ok hn32 (sha_bytes _)
  rw [SP.pput_page] at HPU
  obtain ⟨S1, hS1⟩ : ∃ y, y = (SP.putPage p S n b).1 := ⟨_, rfl⟩
  obtain ⟨ev, hev⟩ : ∃ y, y = (SP.putPage p S n b).2.2 := ⟨_, rfl⟩
  have C33 := Lib.hid (show (pc (SP.putPage p S n b).2.1).length = 33 from pc_len hok)
  have C1 := Lib.hid (one_pg (SP.putPage p S n b).2.1)
  obtain ⟨C, hC⟩ : ∃ y, y = pc (SP.putPage p S n b).2.1 := ⟨_, rfl⟩
  rw [<- hS1, <- hev, <- hC] at HPU
  rw [<- hC] at C33 C1
  rw [<- hS1, <- hev, <- hC]
  have HV := Lib.hid hv
  obtain ⟨bl, hbl⟩ : ∃ x, x = b.length := ⟨_, rfl⟩
  have HPD := Lib.hid (sppadded_any (some ⟨s, 0, none⟩) ba bl bc w1)
  rw [<- hbl] at HV ⊢
  clear hS1 hev hC hok hRZ hp hd ht h tt hn32 hv hbl
  go_enter Tryd.func8, Tryd.ntmps8
  go_upto_region 1 with fail
  rw [<- hw1]
  clear hw1
  go_wp2_with (first
    | (go_at_call 18; (with_reducible refine HPD.out.mono ?_); rintro e w3 ⟨b0, b1, rfl, _, _, g0, g1, b3⟩; have G0 := Lib.hid g0; have G1 := Lib.hid g1; have W3 := Lib.hid (W1.out.on b3); have R3 := Lib.hid (R1.out.below b3 R1.out.lt); clear g0 g1 b3)
    | (go_at_call 17; refine (HPU.out _ _ _ _ b0 b1 W3.out G0.out G1.out (HV.out.below W3.out)).mono ?_; rintro e w4 ⟨rfl, d4, k4⟩; have D4 := Lib.hid d4; have K4 := Lib.hid k4; have R4 := Lib.hid (R3.out.kept k4 (.inr (.inr ⟨Nat.le_refl _, R3.out.lt⟩))); clear d4 k4)
    | ((with_reducible show wpList _ _ _ (Oper.mk _ (.store _ (.tmp 6) (.tmp 14)) _ _ _ _ :: _) _ _); refine wpList_store_blk rfl 37 (.tmp 6) (.tmp 14) rfl w.heap.size 0 C rfl rfl 37 RZ R4.out (by have := C33.out; have := RZ33.out; omega) (by rw [C33.out]; exact infoRfQ) C1.out ?_; intro w5 b' g'; rw [splice_all _ _ (by rw [C33.out, RZ33.out])] at b'; have U := Lib.hid b'; have GRU := Lib.hid g'; clear b' g'))
  refine bodyPost_ret (results_mid2 rfl _ _ w.heap.size C _ rfl U.out.range Tryd.underlying37 rfl (by rw [C33.out]; exact infoRfQ)) rfl ?_
  exact ⟨rfl, (D4.out.turn GRU.out (fun g e => .inr (by rw [<- Option.some.inj e]; exact ⟨Nat.le_refl _, R3.out.lt⟩))).less (fun _ q => .inl q), ((Kept.of_below W3.out).trans (K4.out.less (fun _ q => .inl q))).trans (Kept.of_grown GRU.out HFR.out)⟩
set_option maxRecDepth 100000 in
set_option maxHeartbeats 4000000 in
theorem spcputnode_any {s d : Nat} {p : SP.Sp} (hp : SP.Ok p) (B : Nat) (A : Nat -> Prop) (S : DM.DS) (w : World) (hd : Dev B A w d S) (ht : Tame S) (h : Spa (fun k => k < B \/ A k) w s d p) (tt : PTabs (fun k => k < B \/ A k) w) (n : Nat) (hn32 : n < 4294967296) (x : List Pg) (hx : ND.Nok x) : Calls Tryd.prog 9 #[.pointer (some ⟨s, 0, none⟩), .int .u32 (n : Int), .agg (pcs x).toArray] w fun e w' => e = .returned (.tuple #[.agg (pc (SP.putNode p S n x).2.1).toArray, .int .i64 (SP.putNode p S n x).2.2]) /\ Dev B A w' d (SP.putNode p S n x).1 /\ Kept B A w w' := by
  have HFR := Lib.hid (fun k (hk : k < B \/ A k) => (show k ≠ (w.heap.size + 1) from fun e => by have := hd.old k hk; omega))
  obtain ⟨RZ, hRZ⟩ : ∃ x, x = pc ND.zp := ⟨_, rfl⟩
  have hz : ∀ w, (zeroValue 37).run Tryd.prog w = .ok (.agg RZ.toArray) w := by rw [hRZ]; exact zeroRfP
  have RZ33 := Lib.hid (show RZ.length = 33 by rw [hRZ]; exact pc_len ND.zp_ok)
  have X264 := Lib.hid (ND.pcs_len8 hx)
  have HNP := Lib.hid (fun W => npput_any x hx W)
  have HOL := Lib.hid (ND.ones_len8 hx)
  obtain ⟨w1, hw1⟩ : ∃ y, y = (w.alloc (.cells (pcs x).toArray 43)).alloc (.cells RZ.toArray 37) := ⟨_, rfl⟩
  have W1 := Lib.hid (show Below w.heap.size w w1 by rw [hw1]; exact ((Below.refl w.heap.size w).alloc (Nat.le_refl _) (.cells (pcs x).toArray 43)).alloc (by simp) _)
  have X1 := Lib.hid (show Blk w1 w.heap.size 43 (pcs x) by rw [hw1]; exact (Blk.new w 43 (pcs x) _ rfl).alloc _)
  have R1 := Lib.hid (show Blk w1 (w.heap.size + 1) 37 RZ by rw [hw1]; exact Blk.new _ 37 RZ (w.heap.size + 1) (by simp))
  have HPU := Lib.hid (fun W (ba : Option Addr) (bl bc : Nat) b0 b1 (hW : Below w.heap.size w W) (g0 : Blk W b0 30 [.pointer (some ⟨s, 0, none⟩)]) (g1 : Blk W b1 25 [.slice ba bl bc]) (hv : Rd W (.slice ba bl bc) (ones x)) => spcput_any hp B (fun k => A k \/ (w.heap.size <= k /\ k < W.heap.size)) S W (hd.own hW) ht (h.below hW) n hn32 35 21 #[.pointer (some ⟨b1, 0, none⟩), .pointer (some ⟨b0, 0, none⟩)] #[] (SP.padE p (ones x)) (SP.padL p (ones x)) (SP.nsum (SP.padL p (ones x))) (sha_bytes _)
    (fun V => by rw [show (#[] ++ #[.pointer (some ⟨b1, 0, none⟩), .pointer (some ⟨b0, 0, none⟩)] : Array Value) = #[.pointer (some ⟨b1, 0, none⟩), .pointer (some ⟨b0, 0, none⟩)] by simp]; go_simp) (fun v V => by rw [Array.append_empty]; go_simp)
    (fun _ V hV => by rw [show (#[] ++ #[.pointer (some ⟨b1, 0, none⟩), .pointer (some ⟨b0, 0, none⟩)] : Array Value) = #[.pointer (some ⟨b1, 0, none⟩), .pointer (some ⟨b0, 0, none⟩)] by simp]; exact sppadded1_any hp (ones x) ba bl bc b0 b1 V (h.below (hW.on hV)) (g0.below hV g0.lt) (g1.below hV g1.lt) (hv.below hV))
    (fun _ V v hK hr _ => by rw [Array.append_empty]; exact npsum_any _ v V hr ((tt.below hW).kept hK (fun i hi => hi.imp_right .inl)).p))
  have hok : Pok (SP.putNode p S n x).2.1 := by rw [<- SP.pput_node hp S n hx]; exact SP.pput_ok hn32 (sha_bytes _)
  rw [SP.pput_node hp S n hx] at HPU
  obtain ⟨S1, hS1⟩ : ∃ y, y = (SP.putNode p S n x).1 := ⟨_, rfl⟩
  obtain ⟨ev, hev⟩ : ∃ y, y = (SP.putNode p S n x).2.2 := ⟨_, rfl⟩
  have C33 := Lib.hid (show (pc (SP.putNode p S n x).2.1).length = 33 from pc_len hok)
  have C1 := Lib.hid (one_pg (SP.putNode p S n x).2.1)
  obtain ⟨C, hC⟩ : ∃ y, y = pc (SP.putNode p S n x).2.1 := ⟨_, rfl⟩
  rw [<- hS1, <- hev, <- hC] at HPU
  rw [<- hC] at C33 C1
  rw [<- hS1, <- hev, <- hC]
  have HPD := Lib.hid (fun W ba bl bc => sppadded_any (some ⟨s, 0, none⟩) ba bl bc W)
  obtain ⟨ON, hON⟩ : ∃ y, y = ones x := ⟨_, rfl⟩
  rw [<- hON] at HNP HPU HOL
  obtain ⟨XC, hXC⟩ : ∃ y, y = pcs x := ⟨_, rfl⟩
  rw [<- hXC] at X264 X1 HNP hw1 ⊢
  clear hS1 hev hC hok hRZ hp hd ht h tt hn32 hON hXC hx
  go_enter Tryd.func9, Tryd.ntmps9
  go_upto_region 1 with fail
  rw [<- hw1]
  clear hw1
  go_wp2_with (first
    | ((with_reducible show wpList _ _ _ (Oper.mk _ (.load _ (.tmp 5)) _ _ _ _ :: _) _ _); refine wpList_load_mid rfl 43 (.tmp 5) rfl w.heap.size 0 rfl XC _ X1.out.range Tryd.underlying43 rfl (by rw [X264.out]; exact infoNdP) ?_)
    | (go_at_call 20; (with_reducible refine (HNP.out _).mono ?_); rintro e w2 ⟨v, rfl, o2, b2⟩; obtain ⟨va, vc, rfl, _⟩ := o2.rd.shape; rw [HOL.out] at o2 ⊢; have O2 := Lib.hid o2.rd; have W2 := Lib.hid (W1.out.on b2); have R2 := Lib.hid (R1.out.below b2 R1.out.lt); clear o2 b2)
    | (go_at_call 18; (with_reducible refine (HPD.out _ _ _ _).mono ?_); rintro e w3 ⟨b0, b1, rfl, _, _, g0, g1, b3⟩; have G0 := Lib.hid g0; have G1 := Lib.hid g1; have W3 := Lib.hid (W2.out.on b3); have O3 := Lib.hid (O2.out.below b3); have R3 := Lib.hid (R2.out.below b3 R2.out.lt); clear g0 g1 b3)
    | (go_at_call 17; refine (HPU.out _ _ _ _ b0 b1 W3.out G0.out G1.out O3.out).mono ?_; rintro e w4 ⟨rfl, d4, k4⟩; have D4 := Lib.hid d4; have K4 := Lib.hid k4; have R4 := Lib.hid (R3.out.kept k4 (.inr (.inr ⟨by omega, R3.out.lt⟩))); clear d4 k4)
    | ((with_reducible show wpList _ _ _ (Oper.mk _ (.store _ (.tmp 6) (.tmp 15)) _ _ _ _ :: _) _ _); refine wpList_store_blk rfl 37 (.tmp 6) (.tmp 15) rfl (w.heap.size + 1) 0 C rfl rfl 37 RZ R4.out (by have := C33.out; have := RZ33.out; omega) (by rw [C33.out]; exact infoRfQ) C1.out ?_; intro w5 b' g'; rw [splice_all _ _ (by rw [C33.out, RZ33.out])] at b'; have U := Lib.hid b'; have GRU := Lib.hid g'; clear b' g'))
  refine bodyPost_ret (results_mid2 rfl _ _ (w.heap.size + 1) C _ rfl U.out.range Tryd.underlying37 rfl (by rw [C33.out]; exact infoRfQ)) rfl ?_
  exact ⟨rfl, (D4.out.turn GRU.out (fun g e => .inr (by rw [<- Option.some.inj e]; exact ⟨by omega, R3.out.lt⟩))).less (fun _ q => .inl q), ((Kept.of_below W3.out).trans (K4.out.less (fun _ q => .inl q))).trans (Kept.of_grown GRU.out HFR.out)⟩
def PdB (w w1 : World) (B : Nat) (A : Nat -> Prop) (s d : Nat) (S1 : DM.DS) (m : Nat) (RZ C : List Value) : Nat -> Told -> World -> Prop
  | 0, _, W => Below w1.heap.size w1 W
  | 1, r, W => ∃ b0 b1, r 6 = some (.func (.func 40) #[] #[.pointer (some ⟨b0, 0, none⟩), .pointer (some ⟨b1, 0, none⟩)]) /\ w.heap.size <= b0 /\ w.heap.size <= b1 /\ Blk W b0 30 [.pointer (some ⟨s, 0, none⟩)] /\ Blk W b1 34 [.int .u32 (m : Int)] /\ Below w1.heap.size w1 W
  | 2, _, W => ∃ V, Below w1.heap.size w1 V /\ Dev B (fun k => A k \/ (w.heap.size <= k /\ k < V.heap.size)) W d S1 /\ Kept B (fun k => A k \/ (w.heap.size <= k /\ k < V.heap.size)) V W /\ Blk W (w.heap.size + 1 + 1 + 1) 37 RZ
  | _, _, W => Dev B A W d S1 /\ Kept B A w W /\ Blk W (w.heap.size + 1 + 1 + 1) 37 C
set_option maxRecDepth 100000 in
set_option maxHeartbeats 4000000 in
theorem spcputdata_any {s d : Nat} {p : SP.Sp} (hp : SP.Ok p) (B : Nat) (A : Nat -> Prop) (S : DM.DS) (w : World) (hd : Dev B A w d S) (ht : Tame S) (h : Spa (fun k => k < B \/ A k) w s d p) (tt : PTabs (fun k => k < B \/ A k) w) (n : Nat) (hn32 : n < 4294967296) (b : List Nat) (v : Value) (hv : Rd w v b) : Calls Tryd.prog 10 #[.pointer (some ⟨s, 0, none⟩), .int .u32 (n : Int), v] w fun e w' => e = .returned (.tuple #[.agg (pc (SP.putData p S n b).2.1).toArray, .int .i64 (SP.putData p S n b).2.2]) /\ Dev B A w' d (SP.putData p S n b).1 /\ Kept B A w w' := by
  obtain ⟨ba, bc, rfl, _⟩ := hv.shape
  have HFR := Lib.hid (fun k (hk : k < B \/ A k) => (show k ≠ (w.heap.size + 1 + 1 + 1) from fun e => by have := hd.old k hk; omega))
  obtain ⟨RZ, hRZ⟩ : ∃ x, x = pc ND.zp := ⟨_, rfl⟩
  have hz : ∀ w, (zeroValue 37).run Tryd.prog w = .ok (.agg RZ.toArray) w := by rw [hRZ]; exact zeroRfP
  have RZ33 := Lib.hid (show RZ.length = 33 by rw [hRZ]; exact pc_len ND.zp_ok)
  obtain ⟨bl, hbl⟩ : ∃ x, x = b.length := ⟨_, rfl⟩
  rw [<- hbl] at hv ⊢
  obtain ⟨w1, hw1⟩ : ∃ x, x = (((w.alloc (.cells #[.pointer (some ⟨s, 0, none⟩)] 30)).alloc (.cells #[.int .u32 (n : Int)] 34)).alloc (.cells #[.slice ba bl bc] 25)).alloc (.cells RZ.toArray 37) := ⟨_, rfl⟩
  have W1 := Lib.hid (show Below w.heap.size w w1 by rw [hw1]; exact ((((Below.refl w.heap.size w).alloc (Nat.le_refl _) _).alloc (by simp) _).alloc (by simp; omega) _).alloc (by simp; omega) _)
  have P0 := Lib.hid (show Blk w1 w.heap.size 30 [.pointer (some ⟨s, 0, none⟩)] by rw [hw1]; exact (((Blk.new w 30 [.pointer (some ⟨s, 0, none⟩)] _ rfl).alloc _).alloc _).alloc _)
  have P1 := Lib.hid (show Blk w1 (w.heap.size + 1) 34 [.int .u32 (n : Int)] by rw [hw1]; exact ((Blk.new _ 34 [.int .u32 (n : Int)] (w.heap.size + 1) (by simp)).alloc _).alloc _)
  have P2 := Lib.hid (show Blk w1 (w.heap.size + 1 + 1) 25 [.slice ba bl bc] by rw [hw1]; exact (Blk.new _ 25 [.slice ba bl bc] (w.heap.size + 1 + 1) (by simp)).alloc _)
  have R1 := Lib.hid (show Blk w1 (w.heap.size + 1 + 1 + 1) 37 RZ by rw [hw1]; exact Blk.new _ 37 RZ (w.heap.size + 1 + 1 + 1) (by simp))
  obtain ⟨m, hm⟩ : ∃ m : Nat, m = (n + 1) % 4294967296 := ⟨_, rfl⟩
  have hm32 : m < 4294967296 := by omega
  have HWN := Lib.hid (show IntKind.u32.wrap ((n : Int) + 1) = (m : Int) by rw [IntKind.wrap_u32]; omega)
  have HPU := Lib.hid (fun W b0 b1 (hW : Below w1.heap.size w1 W) (l0 : w.heap.size <= b0) (l1 : w.heap.size <= b1) (g0 : Blk W b0 30 [.pointer (some ⟨s, 0, none⟩)]) (g1 : Blk W b1 34 [.int .u32 (m : Int)]) => spcput_any hp B (fun k => A k \/ (w.heap.size <= k /\ k < W.heap.size)) S W (hd.own (W1.out.on hW)) ht (h.below (W1.out.on hW)) n hn32 22 40 #[.pointer (some ⟨w.heap.size, 0, none⟩), .pointer (some ⟨(w.heap.size + 1), 0, none⟩), .pointer (some ⟨(w.heap.size + 1 + 1), 0, none⟩)] #[.pointer (some ⟨b0, 0, none⟩), .pointer (some ⟨b1, 0, none⟩)] (xerr b.length) (SP.sealL p n b) (SP.leaf p m (SP.sealL p n b)) (mac_bytes _ _)
    (fun V => by rw [show (#[] ++ #[.pointer (some ⟨w.heap.size, 0, none⟩), .pointer (some ⟨(w.heap.size + 1), 0, none⟩), .pointer (some ⟨(w.heap.size + 1 + 1), 0, none⟩)] : Array Value) = #[.pointer (some ⟨w.heap.size, 0, none⟩), .pointer (some ⟨(w.heap.size + 1), 0, none⟩), .pointer (some ⟨(w.heap.size + 1 + 1), 0, none⟩)] by simp]; go_simp) (fun v V => by rw [show (#[v] ++ #[.pointer (some ⟨b0, 0, none⟩), .pointer (some ⟨b1, 0, none⟩)] : Array Value) = #[v, .pointer (some ⟨b0, 0, none⟩), .pointer (some ⟨b1, 0, none⟩)] by simp]; go_simp)
    (fun hn5 V hV => by rw [show (#[] ++ #[.pointer (some ⟨w.heap.size, 0, none⟩), .pointer (some ⟨(w.heap.size + 1), 0, none⟩), .pointer (some ⟨(w.heap.size + 1 + 1), 0, none⟩)] : Array Value) = #[.pointer (some ⟨w.heap.size, 0, none⟩), .pointer (some ⟨(w.heap.size + 1), 0, none⟩), .pointer (some ⟨(w.heap.size + 1 + 1), 0, none⟩)] by simp]; exact spseal1_any hp n hn5 b ba bl bc w.heap.size (w.heap.size + 1) (w.heap.size + 1 + 1) V (h.below ((W1.out.on hW).on hV)) (P0.out.below (hW.on hV) P0.out.lt) (P1.out.below (hW.on hV) P1.out.lt) (P2.out.below (hW.on hV) P2.out.lt) (hv.below ((W1.out.on hW).on hV)) (tt.below ((W1.out.on hW).on hV)).x)
    (fun _ V v hK hr _ => by rw [show (#[v] ++ #[.pointer (some ⟨b0, 0, none⟩), .pointer (some ⟨b1, 0, none⟩)] : Array Value) = #[v, .pointer (some ⟨b0, 0, none⟩), .pointer (some ⟨b1, 0, none⟩)] by simp]; exact spleaf1_any hp m hm32 _ v b0 b1 V ((h.below (W1.out.on hW)).kept hK (fun i hi => hi.imp_right .inl)) (g0.kept hK (.inr (.inr ⟨l0, g0.lt⟩))) (g1.kept hK (.inr (.inr ⟨l1, g1.lt⟩))) hr ((tt.below (W1.out.on hW)).kept hK (fun i hi => hi.imp_right .inl)).p))
  have hpe := SP.pput_data hp S n m (fun h5 => by omega) b
  have hok : Pok (SP.putData p S n b).2.1 := by rw [<- hpe]; exact SP.pput_ok hn32 (mac_bytes _ _)
  rw [hpe] at HPU
  obtain ⟨S1, hS1⟩ : ∃ y, y = (SP.putData p S n b).1 := ⟨_, rfl⟩
  obtain ⟨ev, hev⟩ : ∃ y, y = (SP.putData p S n b).2.2 := ⟨_, rfl⟩
  have C33 := Lib.hid (show (pc (SP.putData p S n b).2.1).length = 33 from pc_len hok)
  have C1 := Lib.hid (one_pg (SP.putData p S n b).2.1)
  obtain ⟨C, hC⟩ : ∃ y, y = pc (SP.putData p S n b).2.1 := ⟨_, rfl⟩
  rw [<- hS1, <- hev, <- hC] at HPU
  rw [<- hC] at C33 C1
  rw [<- hS1, <- hev, <- hC]
  have hmf := fun (fn : Fn) (first cap : Array Value) (w : World) => run_makeFunc fn first cap w
  clear hpe hS1 hev hC hok hRZ hp hd ht h tt hn32 hv hbl hm hm32
  go_enter Tryd.func10, Tryd.ntmps10
  go_upto_region 1 with fail
  rw [<- hw1]
  clear hw1
  go_upto_region 2 with fail
  refine wp_region_z (by kernel_rfl) [6, 7, 10] (by kernel_rfl) (by kernel_rfl) (Stg [6, 7, 10] ((PdB w w1 B A s d S1 m RZ C))) [.pre (.pointer (some ⟨s, 0, none⟩)), .pre (.int .u32 (n : Int)), .pre (.func (.func 22) #[] #[.pointer (some ⟨w.heap.size, 0, none⟩), .pointer (some ⟨(w.heap.size + 1), 0, none⟩), .pointer (some ⟨(w.heap.size + 1 + 1), 0, none⟩)]), .pre (.pointer (some ⟨s, 0, none⟩)), .pre (.int .u32 (n : Int)), .pre (.int .u32 (m : Int)), .of 6 (fun u v => v = u), .pre (.tuple #[.agg C.toArray, .int .i64 ev]), .pre (.agg C.toArray), .pre (.int .i64 ev), .any, .pre (.int .i64 ev)] (fun i hi hq => by
        simp only [List.mem_cons, List.mem_nil_iff, or_false] at hi
        rcases hi with rfl | rfl | rfl
        . exact absurd hq (by decide +kernel)
        . exact absurd hq (by decide +kernel)
        . rfl) (Stg.zero (Below.refl _ _).drew) ?_ ?_
  . refine ⟨?_, ?_, ?_, ?_, ?_, ?_, ?_, ?_, ?_, ?_, ?_, ?_, trivial⟩
    . intro a w5 r hF hI hns hri h1 h2 hd
      have e3 : a.eval (.tmp 3) = .pointer (some ⟨w.heap.size, 0, none⟩) := hF 3 (by decide +kernel)
      obtain ⟨k, hk1, hk2, hA⟩ : ∃ k, 0 <= k /\ k <= 1 /\ (PdB w w1 B A s d S1 m RZ C) k r w5 := hI.between 0 1 (.inl rfl) (.inr ⟨by decide, h1 7 (by decide) (by decide +kernel)⟩)
      have hB : w5.cell? ⟨w.heap.size, 0, none⟩ = some (.pointer (some ⟨s, 0, none⟩)) := by
        rcases (show k = 0 \/ k = 1 by omega) with rfl | rfl
        . exact (P0.out.below hA P0.out.lt).cell 0 _ rfl
        . exact (P0.out.below hA.choose_spec.choose_spec.2.2.2.2.2 P0.out.lt).cell 0 _ rfl
      exact doesZ_read (v := .pointer (some ⟨s, 0, none⟩)) (by decide) rfl (by unfold execOp; simp only [e3]; go_simp) hI rfl
    . intro a w5 r hF hI hns hri h1 h2 hd
      have e4 : a.eval (.tmp 4) = .pointer (some ⟨w.heap.size + 1, 0, none⟩) := hF 4 (by decide +kernel)
      obtain ⟨k, hk1, hk2, hA⟩ : ∃ k, 0 <= k /\ k <= 1 /\ (PdB w w1 B A s d S1 m RZ C) k r w5 := hI.between 0 1 (.inl rfl) (.inr ⟨by decide, h1 7 (by decide) (by decide +kernel)⟩)
      have hB : w5.cell? ⟨w.heap.size + 1, 0, none⟩ = some (.int .u32 (n : Int)) := by
        rcases (show k = 0 \/ k = 1 by omega) with rfl | rfl
        . exact (P1.out.below hA P1.out.lt).cell 0 _ rfl
        . exact (P1.out.below hA.choose_spec.choose_spec.2.2.2.2.2 P1.out.lt).cell 0 _ rfl
      exact doesZ_read (v := .int .u32 (n : Int)) (by decide) rfl (by unfold execOp; simp only [e4]; go_simp) hI rfl
    . intro a w5 r hF hI hns hri h1 h2 hd
      have e8 : a.eval (.tmp 8) = .func (.func 22) #[] #[.pointer (some ⟨w.heap.size, 0, none⟩), .pointer (some ⟨(w.heap.size + 1), 0, none⟩), .pointer (some ⟨(w.heap.size + 1 + 1), 0, none⟩)] := hF 8 (by decide +kernel)
      exact doesZ_read (v := .func (.func 22) #[] #[.pointer (some ⟨w.heap.size, 0, none⟩), .pointer (some ⟨(w.heap.size + 1), 0, none⟩), .pointer (some ⟨(w.heap.size + 1 + 1), 0, none⟩)]) (by decide) rfl (ex_move rfl e8) hI rfl
    . intro a w5 r hF hI hns hri h1 h2 hd
      have e3 : a.eval (.tmp 3) = .pointer (some ⟨w.heap.size, 0, none⟩) := hF 3 (by decide +kernel)
      have hA0 : (PdB w w1 B A s d S1 m RZ C) 0 r w5 := hI.at_ 0 (.inl rfl) (.inr ⟨by decide, h1 6 (by decide) (by decide +kernel)⟩)
      have hB : w5.cell? ⟨w.heap.size, 0, none⟩ = some (.pointer (some ⟨s, 0, none⟩)) := by exact (P0.out.below hA0 P0.out.lt).cell 0 _ rfl
      exact doesZ_read (v := .pointer (some ⟨s, 0, none⟩)) (by decide) rfl (by unfold execOp; simp only [e3]; go_simp) hI rfl
    . intro a w5 r hF hI hns hri h1 h2 hd
      have e4 : a.eval (.tmp 4) = .pointer (some ⟨w.heap.size + 1, 0, none⟩) := hF 4 (by decide +kernel)
      have hA0 : (PdB w w1 B A s d S1 m RZ C) 0 r w5 := hI.at_ 0 (.inl rfl) (.inr ⟨by decide, h1 6 (by decide) (by decide +kernel)⟩)
      have hB : w5.cell? ⟨w.heap.size + 1, 0, none⟩ = some (.int .u32 (n : Int)) := by exact (P1.out.below hA0 P1.out.lt).cell 0 _ rfl
      exact doesZ_read (v := .int .u32 (n : Int)) (by decide) rfl (by unfold execOp; simp only [e4]; go_simp) hI rfl
    . intro a w5 r hF hI hns hri h1 h2 hd
      have e14 : a.eval (.tmp 14) = .int .u32 (n : Int) := hd 4 (by decide +kernel)
      have hwn := HWN.out
      exact doesZ_read (v := .int .u32 (m : Int)) (by decide) rfl (ex_binOp rfl e14 rfl (by go_simp) (by go_simp)) hI rfl
    . intro a w5 r hF hI hns hri h1 h2 hd
      have e13 : a.eval (.tmp 13) = .pointer (some ⟨s, 0, none⟩) := hd 3 (by decide +kernel)
      have e15 : a.eval (.tmp 15) = .int .u32 (m : Int) := hd 5 (by decide +kernel)
      have hA0 : (PdB w w1 B A s d S1 m RZ C) 0 r w5 := hI.at_ 0 (.inl rfl) (.inr ⟨by decide, hri⟩)
      exact doesZ_call (by decide) rfl (ex_call (vs := #[.pointer (some ⟨s, 0, none⟩), .int .u32 (m : Int)]) rfl (by simp only [List.map_toArray, List.map_cons, List.map_nil, e13, e15]) (by go_simp)) ((spleaf_any (some ⟨s, 0, none⟩) m w5).mono fun e w6 hh => by obtain ⟨b0, b1, he, l0, l1, g0, g1, hb⟩ := hh; exact ⟨_, he, hI.next 0 6 _ rfl (by decide) (.inl rfl) hri (by decide) ⟨b0, b1, Told.set_same _ _ _, Nat.le_trans (W1.out.on hA0).size l0, Nat.le_trans (W1.out.on hA0).size l1, g0, g1, hA0.on hb⟩, _, Told.set_same _ _ _, rfl⟩)
    . intro a w5 r hF hI hns hri h1 h2 hd
      have e10 : a.eval (.tmp 10) = .pointer (some ⟨s, 0, none⟩) := hd 0 (by decide +kernel)
      have e11 : a.eval (.tmp 11) = .int .u32 (n : Int) := hd 1 (by decide +kernel)
      have e12 : a.eval (.tmp 12) = .func (.func 22) #[] #[.pointer (some ⟨w.heap.size, 0, none⟩), .pointer (some ⟨(w.heap.size + 1), 0, none⟩), .pointer (some ⟨(w.heap.size + 1 + 1), 0, none⟩)] := hd 2 (by decide +kernel)
      obtain ⟨u16, hu16, e16⟩ : ∃ u, r 6 = some u /\ a.eval (.tmp 16) = u := hd 6 (by decide +kernel)
      have hA0 : (PdB w w1 B A s d S1 m RZ C) 1 r w5 := hI.at_ 1 (.inr ⟨by decide, h2 6 (by decide) (by decide +kernel)⟩) (.inr ⟨by decide, hri⟩)
      obtain ⟨b0, b1, hr, l0, l1, g0, g1, hb0⟩ := hA0
      obtain rfl : u16 = .func (.func 40) #[] #[.pointer (some ⟨b0, 0, none⟩), .pointer (some ⟨b1, 0, none⟩)] := Option.some.inj (hu16.symm.trans hr)
      exact doesZ_call (by decide) rfl (ex_call (vs := #[.pointer (some ⟨s, 0, none⟩), .int .u32 (n : Int), .func (.func 22) #[] #[.pointer (some ⟨w.heap.size, 0, none⟩), .pointer (some ⟨(w.heap.size + 1), 0, none⟩), .pointer (some ⟨(w.heap.size + 1 + 1), 0, none⟩)], .func (.func 40) #[] #[.pointer (some ⟨b0, 0, none⟩), .pointer (some ⟨b1, 0, none⟩)]]) rfl (by simp only [List.map_toArray, List.map_cons, List.map_nil, e10, e11, e12, e16]) (by go_simp)) ((HPU.out w5 b0 b1 hb0 l0 l1 g0 g1).mono fun e w6 hh => ⟨_, hh.1, hI.next 1 7 _ rfl (by decide) (.inr ⟨by decide, h2 6 (by decide) (by decide +kernel)⟩) hri (by decide) ⟨w5, hb0, hh.2.1, hh.2.2, (R1.out.below hb0 R1.out.lt).kept hh.2.2 (.inr (.inr ⟨by omega, (R1.out.below hb0 R1.out.lt).lt⟩))⟩, rfl⟩)
    . intro a w5 r hF hI hns hri h1 h2 hd
      have e17 : a.eval (.tmp 17) = .tuple #[.agg C.toArray, .int .i64 ev] := hd 7 (by decide +kernel)
      exact doesZ_read (v := .agg C.toArray) (by decide) rfl (by unfold execOp; simp only [e17]; rfl) hI rfl
    . intro a w5 r hF hI hns hri h1 h2 hd
      have e17 : a.eval (.tmp 17) = .tuple #[.agg C.toArray, .int .i64 ev] := hd 7 (by decide +kernel)
      exact doesZ_read (v := .int .i64 ev) (by decide) rfl (by unfold execOp; simp only [e17]; rfl) hI rfl
    . intro a w5 r hF hI hns hri h1 h2 hd
      have e6 : a.eval (.tmp 6) = .pointer (some ⟨(w.heap.size + 1 + 1 + 1), 0, none⟩) := hF 6 (by decide +kernel)
      have e18 : a.eval (.tmp 18) = .agg C.toArray := hd 8 (by decide +kernel)
      have hA0 : (PdB w w1 B A s d S1 m RZ C) 2 r w5 := hI.at_ 2 (.inr ⟨by decide, h2 7 (by decide) (by decide +kernel)⟩) (.inr ⟨by decide, hri⟩)
      obtain ⟨V, hb0, d4, k4, r4⟩ := hA0
      exact doesZ_put (by decide) rfl 37 (.tmp 6) (.tmp 18) rfl (w.heap.size + 1 + 1 + 1) 0 C e6 e18 37 RZ r4 (by have := C33.out; have := RZ33.out; omega) (by rw [C33.out]; exact infoRfQ) C1.out rfl (fun w' b' g' => by rw [splice_all _ _ (by rw [C33.out, RZ33.out])] at b'; exact hI.next 2 10 _ rfl (by decide) (.inr ⟨by decide, h2 7 (by decide) (by decide +kernel)⟩) hri (by decide) ⟨(d4.turn g' (fun g e => .inr (by rw [<- Option.some.inj e]; exact ⟨by omega, Nat.lt_of_lt_of_le R1.out.lt hb0.size⟩))).less (fun _ q => .inl q), ((Kept.of_below (W1.out.on hb0)).trans (k4.less (fun _ q => .inl q))).trans (Kept.of_grown g' HFR.out), b'⟩)
    . intro a w5 r hF hI hns hri h1 h2 hd
      have e19 : a.eval (.tmp 19) = .int .i64 ev := hd 9 (by decide +kernel)
      exact doesZ_read (v := .int .i64 ev) (by decide) rfl (ex_assign rfl e19) hI rfl
  . intro vs r w5 hI hS hvs
    have hA : (PdB w w1 B A s d S1 m RZ C) 3 r w5 := hI.at_ 3 (.inr ⟨by decide, hS 10 (by decide)⟩) (.inl rfl)
    have e7 : vs 11 = .int .i64 ev := hvs 11 (by decide)
    have D5 := Lib.hid hA.1
    have K5 := Lib.hid hA.2.1
    have U := Lib.hid hA.2.2
    simp only [putOps, Act.put, List.setIfInBounds_toArray, List.set_cons_zero, List.set_cons_succ, e7]
    clear hI hS hvs hA e7 HPU
    generalize vs 0 = z0
    generalize vs 1 = z1
    generalize vs 2 = z2
    generalize vs 3 = z3
    generalize vs 4 = z4
    generalize vs 5 = z5
    generalize vs 6 = z6
    generalize vs 7 = z7
    generalize vs 8 = z8
    generalize vs 9 = z9
    go_wp2_with fail
    refine bodyPost_ret (results_mid2 rfl _ _ (w.heap.size + 1 + 1 + 1) C _ rfl U.out.range Tryd.underlying37 rfl (by rw [C33.out]; exact infoRfQ)) rfl ?_
    exact ⟨rfl, D5.out, K5.out⟩
end Go.Proofs.YtflnodkajhokhaaDoor
end

section
namespace Go.Proofs.YtflnodkajhokhaaDoor
open Go.ChangeShapes Go.WideShapes Go.ChangeAt Go.RowKit
namespace SU
def head9 : List Nat := [82, 69, 76, 73, 81, 85, 65, 82, 89]
def raw (c p : Nat) : List Nat := head9 ++ [1] ++ be c 2 ++ [p]
def laid (c p : Nat) : List Nat := padTo (raw c p) 512
def put (C P : Int) : List Nat := if may C P = true then laid C.toNat P.toNat else []
def perr (C P : Int) : Int := if may C P = true then 0 else 2
theorem raw_len (c p : Nat) : (raw c p).length = 13 := by unfold raw; rw [List.length_append, List.length_append, be_len]; rfl
theorem laid_len (c p : Nat) : (laid c p).length = 512 := by unfold laid; rw [padTo_len, raw_len]; decide
theorem raw_flat (c p : Nat) : [head9, [1], be c 2, [p]].flatten = raw c p := by unfold raw; simp
theorem put_yes {c p : Nat} (h : may c p = true) : put c p = laid c p /\ perr c p = 0 := by unfold put perr; rw [if_pos h, if_pos h, Int.toNat_natCast, Int.toNat_natCast]; exact ⟨rfl, rfl⟩
theorem put_no {C P : Int} (h : may C P = false) : put C P = [] /\ perr C P = 2 := by unfold put perr; rw [h]; exact ⟨rfl, rfl⟩
theorem may_nat {C P : Int} (h : may C P = true) : ∃ c p : Nat, C = c /\ P = p /\ 1 <= c /\ c <= 64 /\ 1 <= p /\ p <= 2 := by
  obtain ⟨h1, h2, h3, h4⟩ := may_iff.1 h
  exact ⟨C.toNat, P.toNat, by omega, by omega, by omega, by omega, by omega, by omega⟩
end SU
theorem rds_four {w : World} {x y z u : Value} {l m n p : List Nat} (h : Rd w x l) (k : Rd w y m) (j : Rd w z n) (q : Rd w u p) {b : Nat} (hb : b = w.heap.size) : Rds (w.alloc (.cells #[x, y, z, u] 25)) (.slice (some ⟨b, 0, none⟩) 4 4) [l, m, n, p] := by
  subst hb
  have hB := Blk.new w 25 [x, y, z, u] _ rfl
  refine ⟨by simp, .inr ⟨_, 4, rfl, Nat.le_refl _, fun i l' hj => ?_⟩⟩
  match i, hj with
  | 0, hj => simp at hj; subst hj; exact ⟨x, hB.cell 0 x rfl, h.alloc _⟩
  | 1, hj => simp at hj; subst hj; exact ⟨y, hB.cell 1 y rfl, k.alloc _⟩
  | 2, hj => simp at hj; subst hj; exact ⟨z, hB.cell 2 z rfl, j.alloc _⟩
  | 3, hj => simp at hj; subst hj; exact ⟨u, hB.cell 3 u rfl, q.alloc _⟩
  | i + 4, hj => simp at hj
end Go.Proofs.YtflnodkajhokhaaDoor
end

section
namespace Go.Proofs.YtflnodkajhokhaaDoor
open Go.ChangeShapes Go.WideShapes Go.ChangeAt Go.RowKit
open SU
set_option maxHeartbeats 400000 in
theorem suput_no (C P : Int) (h : may C P = false) (w : World) : Calls Tryd.prog 27 #[.agg #[.int .i64 C, .int .i64 P]] w fun e w' => e = .returned (.tuple #[.slice none 0 0, .int .i64 2]) /\ Below w.heap.size w w' := by
  have X1 := Lib.hid (Blk.new w 33 [.int .i64 C, .int .i64 P] _ rfl)
  have W1 := Lib.hid ((Below.refl w.heap.size w).alloc (Nat.le_refl _) (.cells [Value.int .i64 C, .int .i64 P].toArray 33))
  have HM := Lib.hid (fun W => sumay_any C P W)
  rw [h] at HM
  clear h
  go_enter Tryd.func27, Tryd.ntmps27
  go_wp2_with (first
    | (refine wpList_load_mid rfl 33 (.tmp 1) rfl w.heap.size 0 rfl [.int .i64 C, .int .i64 P] _ X1.out.range Tryd.underlying33 rfl infoGeo ?_)
    | (go_at_call 44; (with_reducible refine (HM.out _).mono ?_); rintro e w2 ⟨rfl, b2⟩; have W2 := Lib.hid (W1.out.on b2); clear b2))
  go_ret2
  exact ⟨rfl, W2.out⟩
set_option maxRecDepth 100000 in
set_option maxHeartbeats 1000000 in
theorem suput_ok (c p : Nat) (h : 1 <= c /\ c <= 64 /\ 1 <= p /\ p <= 2) (w : World) : Calls Tryd.prog 27 #[.agg #[.int .i64 (c : Int), .int .i64 (p : Int)]] w fun e w' => ∃ v, e = .returned (.tuple #[v, .int .i64 0]) /\ Own w' w.heap.size v (laid c p) /\ Below w.heap.size w w' := by
  have X1 := Lib.hid (Blk.new w 33 [.int .i64 (c : Int), .int .i64 (p : Int)] _ rfl)
  have W1 := Lib.hid ((Below.refl w.heap.size w).alloc (Nat.le_refl _) (.cells [Value.int .i64 (c : Int), .int .i64 (p : Int)].toArray 33))
  have HM := Lib.hid (fun W => sumay_any c p W)
  rw [may_iff.2 (by omega)] at HM
  have ac : IntKind.u16.wrap (c : Int) = (c : Int) := by rw [IntKind.wrap_u16]; omega
  have ap : IntKind.u8.wrap (p : Int) = (p : Int) := by rw [IntKind.wrap_u8]; omega
  have HPT := Lib.hid (fun W => put16_any c (by omega) W)
  have HCC := Lib.hid (fun W v (hv : Rds W v [head9, [1], be c 2, [p]]) => concat_any [head9, [1], be c 2, [p]] (by rw [raw_flat, raw_len]; decide) v W hv)
  have HPD := Lib.hid (fun W v (hv : Rd W v (raw c p)) => (show Calls Tryd.prog 36 #[v, .int .i64 512] W fun e w' => e = .returned (.tuple #[.slice (some ⟨W.heap.size, 0, none⟩) 512 512, .int .i64 0]) /\ Own w' W.heap.size (.slice (some ⟨W.heap.size, 0, none⟩) 512 512) (laid c p) /\ Below W.heap.size W w' from pad_ok W v (raw c p) 512 hv (by decide) (by rw [raw_len]; decide)))
  have P256 := Lib.hid (show p < 256 by omega)
  clear h
  go_enter Tryd.func27, Tryd.ntmps27
  go_upto_region 3 with (first
    | (refine wpList_load_mid rfl 33 (.tmp 1) rfl w.heap.size 0 rfl [.int .i64 (c : Int), .int .i64 (p : Int)] _ X1.out.range Tryd.underlying33 rfl infoGeo ?_)
    | (go_at_call 44; (with_reducible refine (HM.out _).mono ?_); rintro e w2 ⟨rfl, b2⟩; have W2 := Lib.hid (W1.out.on b2); have X2 := Lib.hid (X1.out.below b2 X1.out.lt); clear b2))
  refine wp_region_c (by kernel_rfl) 12 (by decide) (by kernel_rfl) (by kernel_rfl) (by kernel_rfl) w2.heap.size rfl [.lit head9, .rd head9, .rd [1], .val (.pointer (some ⟨w.heap.size, 0, none⟩)), .val (.int .i64 (c : Int)), .val (.int .u16 (c : Int)), .rd (be c 2), .val (.pointer (some ⟨w.heap.size, 1, none⟩)), .val (.int .i64 (p : Int)), .val (.int .u8 (p : Int)), .rd [p], .rds [head9, [1], be c 2, [p]]] ?_ ?_
  . refine ⟨?_, ?_, ?_, ?_, ?_, ?_, ?_, ?_, ?_, ?_, ?_, ?_, trivial⟩
    . intro a w' hF hB hd
      refine doesC_wp hB.below.size rfl fun K hK => ?_
      unfold Oper.wp execOp
      go_simp
      exact hK _ _ ⟨_, rfl, hB.below.size, (own_new w' head9 (small_bytes (by decide)) (by decide) rfl (Nat.le_refl _)).rd, by simp⟩ ((Below.refl _ _).alloc (Nat.le_refl _) _)
    . intro a w' hF hB hd
      exact doesC_mark rfl (.tmp 8) rfl head9 (hd 0 (by decide +kernel))
    . intro a w' hF hB hd
      refine doesC_wp hB.below.size rfl fun K hK => ?_
      unfold Oper.wp execOp
      go_simp
      exact hK _ _ (own_new w' [1] (small_bytes (by decide)) (by decide) rfl (Nat.le_refl _)).rd ((Below.refl _ _).alloc (Nat.le_refl _) _)
    . intro a w' hF hB hd
      have e1 : a.eval (.tmp 1) = .pointer (some ⟨w.heap.size, 0, none⟩) := hF 1 (by decide +kernel)
      exact doesC_val rfl (v := .pointer (some ⟨w.heap.size, 0, none⟩)) (by unfold execOp; simp only [e1]; go_simp) rfl
    . intro a w' hF hB hd
      have e11 : a.eval (.tmp 11) = .pointer (some ⟨w.heap.size, 0, none⟩) := hd 3 (by decide +kernel)
      have c0 := (X2.out.below hB.below X2.out.lt).cell 0 _ rfl
      exact doesC_val rfl (v := .int .i64 (c : Int)) (by unfold execOp; simp only [e11]; go_simp) rfl
    . intro a w' hF hB hd
      have e12 : a.eval (.tmp 12) = .int .i64 (c : Int) := hd 4 (by decide +kernel)
      exact doesC_val rfl (ex_convert rfl e12 (by go_simp)) rfl
    . intro a w' hF hB hd
      have e13 : a.eval (.tmp 13) = .int .u16 (c : Int) := hd 5 (by decide +kernel)
      exact doesC_call hB.below.size rfl (ex_call (vs := #[.int .u16 (c : Int)]) rfl (by simp only [List.map_toArray, List.map_cons, List.map_nil, e13]) (by go_simp)) ((HPT.out w').mono fun e w3 hh => by
        obtain ⟨v, rfl, ho, hb⟩ := hh
        exact ⟨v, rfl, ho.rd, hb⟩)
    . intro a w' hF hB hd
      have e1 : a.eval (.tmp 1) = .pointer (some ⟨w.heap.size, 0, none⟩) := hF 1 (by decide +kernel)
      exact doesC_val rfl (v := .pointer (some ⟨w.heap.size, 1, none⟩)) (by unfold execOp; simp only [e1]; go_simp) rfl
    . intro a w' hF hB hd
      have e15 : a.eval (.tmp 15) = .pointer (some ⟨w.heap.size, 1, none⟩) := hd 7 (by decide +kernel)
      have c1 := (X2.out.below hB.below X2.out.lt).cell 1 _ rfl
      exact doesC_val rfl (v := .int .i64 (p : Int)) (by unfold execOp; simp only [e15]; go_simp) rfl
    . intro a w' hF hB hd
      have e16 : a.eval (.tmp 16) = .int .i64 (p : Int) := hd 8 (by decide +kernel)
      exact doesC_val rfl (ex_convert rfl e16 (by go_simp)) rfl
    . intro a w' hF hB hd
      have e17 : a.eval (.tmp 17) = .int .u8 (p : Int) := hd 9 (by decide +kernel)
      have f17 : a.tmps[17]?.getD undef = .int .u8 (p : Int) := by rw [<- Array.getD_eq_getD_getElem?]; exact e17
      refine doesC_wp hB.below.size rfl fun K hK => ?_
      unfold Oper.wp execOp
      go_simp
      exact hK _ _ (own_new w' [p] (fun k => by cases k with | zero => exact P256.out | succ k => exact Nat.zero_lt_succ _) (by simp) rfl (Nat.le_refl _)).rd ((Below.refl _ _).alloc (Nat.le_refl _) _)
    . intro a w' hF hB hd
      have e9 : Rd w' (a.eval (.tmp 9)) head9 := hd 1 (by decide +kernel)
      have e10 : Rd w' (a.eval (.tmp 10)) [1] := hd 2 (by decide +kernel)
      have e14 : Rd w' (a.eval (.tmp 14)) (be c 2) := hd 6 (by decide +kernel)
      have e18 : Rd w' (a.eval (.tmp 18)) [p] := hd 10 (by decide +kernel)
      obtain ⟨a9, c9, q9, _⟩ := e9.shape
      obtain ⟨a10, c10, q10, _⟩ := e10.shape
      obtain ⟨a14, c14, q14, _⟩ := e14.shape
      obtain ⟨a18, c18, q18, _⟩ := e18.shape
      rw [q9] at e9
      rw [q10] at e10
      rw [q14] at e14
      rw [q18] at e18
      rw [be_len] at q14 e14
      have f9 : a.tmps[9]?.getD undef = .slice a9 9 c9 := by rw [<- Array.getD_eq_getD_getElem?]; exact q9
      have f10 : a.tmps[10]?.getD undef = .slice a10 1 c10 := by rw [<- Array.getD_eq_getD_getElem?]; exact q10
      have f14 : a.tmps[14]?.getD undef = .slice a14 2 c14 := by rw [<- Array.getD_eq_getD_getElem?]; exact q14
      have f18 : a.tmps[18]?.getD undef = .slice a18 1 c18 := by rw [<- Array.getD_eq_getD_getElem?]; exact q18
      have R := Lib.hid (rds_four e9 e10 e14 e18 rfl)
      clear q9 q10 q14 q18 e9 e10 e14 e18 hd
      refine doesC_wp hB.below.size rfl fun K hK => ?_
      unfold Oper.wp execOp
      go_simp
      exact hK _ _ R.out ((Below.refl _ _).alloc (Nat.le_refl _) _)
  . intro vs w3 hB hv
    have e19 : Rds w3 (vs 11) [head9, [1], be c 2, [p]] := hv 11 (by decide)
    have E := Lib.hid e19
    have W3 := Lib.hid (W2.out.trans (hB.below.mono W2.out.size))
    obtain ⟨a19, c19, q19', _⟩ := e19.shape
    have q19 : vs 11 = .slice a19 4 c19 := q19'
    clear hv hB e19 q19'
    rw [q19] at E
    simp only [List.take_succ_cons, List.take_zero, List.drop_succ_cons, List.drop_zero, putOps, Act.put, List.setIfInBounds_toArray, List.set_cons_zero, List.set_cons_succ, q19]
    clear q19
    generalize vs 0 = y0
    generalize vs 1 = y1
    generalize vs 2 = y2
    generalize vs 3 = y3
    generalize vs 4 = y4
    generalize vs 5 = y5
    generalize vs 6 = y6
    generalize vs 7 = y7
    generalize vs 8 = y8
    generalize vs 9 = y9
    generalize vs 10 = y10
    have HC3 := Lib.hid (HCC.out w3 _ E.out)
    go_wp2_with (first
      | (go_at_call 45; (with_reducible refine HC3.out.mono ?_); rintro e w4 ⟨v4, rfl, o4, b4⟩; rw [raw_flat] at o4; have W4 := Lib.hid (W3.out.on b4); have HP4 := Lib.hid (HPD.out w4 v4 o4.rd); obtain ⟨a4, c4, rfl, _⟩ := o4.rd.shape; rw [raw_len] at HP4 ⊢; clear o4 b4)
      | (go_at_call 36; (with_reducible refine HP4.out.mono ?_); rintro e w5 ⟨rfl, o5, b5⟩; have W5 := Lib.hid (W4.out.on b5); have O5 := Lib.hid (o5.lower W4.out.size); clear o5 b5))
    go_ret2
    exact ⟨_, rfl, O5.out, W5.out⟩
theorem suput_any (C P : Int) (w : World) : Calls Tryd.prog 27 #[.agg #[.int .i64 C, .int .i64 P]] w fun e w' => ∃ v, e = .returned (.tuple #[v, .int .i64 (perr C P)]) /\ Own w' w.heap.size v (put C P) /\ Below w.heap.size w w' := by
  cases hm : may C P with
  | true =>
    obtain ⟨c, p, rfl, rfl, h⟩ := may_nat hm
    rw [(put_yes hm).1, (put_yes hm).2]
    exact suput_ok c p h w
  | false =>
    rw [(put_no hm).1, (put_no hm).2]
    exact (suput_no C P hm w).mono fun e w' hh => ⟨_, hh.1, (own_nil w').lower hh.2.size, hh.2⟩
end Go.Proofs.YtflnodkajhokhaaDoor
end

section
namespace Go.Proofs.YtflnodkajhokhaaDoor
open Go.ChangeShapes Go.WideShapes Go.ChangeAt Go.RowKit
open SM SU
def SU.sum (C P : Int) : List Nat := if may C P = true then sha (laid C.toNat P.toNat) else List.replicate 32 0
theorem zeroSu (w : World) : (zeroValue 35).run Tryd.prog w = .ok (.agg (row8 (List.replicate 32 0)).toArray) w := by kernel_rfl
theorem builtSu : Tryd.prog.built 35 [] = some (row8 (List.replicate 32 0)).toArray := by kernel_rfl
set_option maxRecDepth 100000 in
set_option maxHeartbeats 1000000 in
theorem susum_any (C P : Int) (w : World) (ht : TabP w) : Calls Tryd.prog 14 #[.agg #[.int .i64 C, .int .i64 P]] w fun e w' => e = .returned (.agg (row8 (sum C P)).toArray) /\ Below w.heap.size w w' := by
  obtain ⟨D0, hD0⟩ : ∃ D, D = row8 (List.replicate 32 0) := ⟨_, rfl⟩
  have hz : ∀ w, (zeroValue 35).run Tryd.prog w = .ok (.agg D0.toArray) w := by rw [hD0]; exact zeroSu
  have hbu : Tryd.prog.built 35 [] = some D0.toArray := by rw [hD0]; exact builtSu
  have hd0 : D0.length = 32 := by rw [hD0, row8_len, List.length_replicate]
  have HD := Lib.hid hD0
  have W1 := Lib.hid ((Below.refl w.heap.size w).alloc (Nat.le_refl _) (.cells [Value.int .i64 C, .int .i64 P].toArray 33))
  have W2 := Lib.hid (W1.out.alloc W1.out.size (.cells D0.toArray 35))
  have T2 := Lib.hid ((Blk.new w 33 [.int .i64 C, .int .i64 P] _ rfl).alloc (.cells D0.toArray 35))
  have R2 := Lib.hid (Blk.new (w.alloc (.cells [Value.int .i64 C, .int .i64 P].toArray 33)) 35 D0 (w.heap.size + 1) (by simp))
  have HP := Lib.hid (fun W => suput_any C P W)
  have HTP := Lib.hid ht
  clear hD0 ht
  cases hm : may C P with
  | true =>
    obtain ⟨c, p, rfl, rfl, h⟩ := may_nat hm
    obtain ⟨M, hM⟩ : ∃ M, M = sha (laid c p) := ⟨_, rfl⟩
    rw [show sum c p = M by rw [hM]; unfold sum; rw [hm]; rfl]
    have M32 := Lib.hid (show (row8 M).length = 32 by rw [row8_len, hM]; exact (sha_bytes _).1)
    have HPL := Lib.hid (show (laid c p).length <= 1152921504606846976 by rw [laid_len]; decide)
    have HM := Lib.hid hM
    rw [(put_yes hm).1, (put_yes hm).2] at HP
    
    
    clear hM hm h
    go_enter Tryd.func14, Tryd.ntmps14
    go_wp2_with (first
      | (refine wpList_load_mid rfl 33 (.tmp 1) rfl w.heap.size 0 rfl [.int .i64 (c : Int), .int .i64 (p : Int)] _ T2.out.range Tryd.underlying33 rfl infoGeo ?_)
      | (go_at_call 27; (with_reducible refine (HP.out _).mono ?_); rintro e w3 ⟨v, rfl, o3, b3⟩; obtain ⟨pa, pc, rfl, _⟩ := o3.rd.shape; rw [laid_len] at o3 ⊢; have W3 := Lib.hid (W2.out.on b3); have R3 := Lib.hid (R2.out.below b3 R2.out.lt); have HO := Lib.hid (of_one_at (w := w3) rfl o3.rd (HTP.out.below W3.out) HPL.out HM.out); clear o3 b3)
      | (go_at_call 28; (with_reducible refine HO.out.mono ?_); rintro e w4 ⟨rfl, b4⟩; have W4 := Lib.hid (W3.out.on b4); have R4 := Lib.hid (R3.out.below b4 R3.out.lt); clear b4)
      | (refine wpList_store_blk rfl 35 (.tmp 2) (.tmp 15) rfl (w.heap.size + 1) 0 (row8 M) rfl rfl 35 D0 R4.out (by rw [M32.out, hd0]; exact Nat.le_refl _) (by rw [M32.out]; exact infoS) (row8_one _) ?_; intro w5 b5 g5; rw [splice_all _ _ (by rw [M32.out, hd0])] at b5; have U5 := Lib.hid b5; have W5 := Lib.hid (W4.out.grown g5 W4.out.size (fun g hg => by have := Option.some.inj hg; omega)); clear b5 g5))
    exact bodyPost_ret (results_mid rfl _ _ (w.heap.size + 1) (row8 M) _ rfl U5.out.range Tryd.underlying35 rfl (by rw [M32.out]; exact infoS)) rfl ⟨rfl, W5.out⟩
  | false =>
    rw [show sum C P = List.replicate 32 0 by unfold sum; rw [hm]; rfl]
    rw [(put_no hm).1, (put_no hm).2] at HP
    clear hm
    rw [<- HD.out]
    go_enter Tryd.func14, Tryd.ntmps14
    go_wp2_with ((fail_if_success (with_reducible show bodyPost _ _ _ _ _ _)); first
      | (refine wpList_load_mid rfl 33 (.tmp 1) rfl w.heap.size 0 rfl [.int .i64 C, .int .i64 P] _ T2.out.range Tryd.underlying33 rfl infoGeo ?_)
      | (go_at_call 27; (with_reducible refine (HP.out _).mono ?_); rintro e w3 ⟨v, rfl, o3, b3⟩; obtain ⟨pa, pc, rfl, _⟩ := o3.rd.shape; have W3 := Lib.hid (W2.out.on b3); have R3 := Lib.hid (R2.out.below b3 R2.out.lt); clear o3 b3)
      | (refine wpList_buildTo rfl 35 _ rfl (some 12) rfl D0.toArray (Eq.trans (b := Tryd.prog.built 35 []) (by kernel_rfl) hbu) ?_)
      | (refine wpList_store_blk rfl 35 (.tmp 2) (.tmp 12) rfl (w.heap.size + 1) 0 D0 rfl rfl 35 D0 R3.out (by rw [hd0]; exact Nat.le_refl _) (by rw [hd0]; exact infoS) (by rw [HD.out]; exact row8_one _) ?_; intro w5 b5 g5; rw [splice_all _ _ (by rfl)] at b5; have U5 := Lib.hid b5; have W5 := Lib.hid (W3.out.grown g5 W3.out.size (fun g hg => by have := Option.some.inj hg; omega)); clear b5 g5))
    exact bodyPost_ret (results_mid rfl _ _ (w.heap.size + 1) D0 _ rfl U5.out.range Tryd.underlying35 rfl (by rw [hd0]; exact infoS)) rfl ⟨rfl, W5.out⟩
end Go.Proofs.YtflnodkajhokhaaDoor
end

section
namespace Go.Proofs.YtflnodkajhokhaaDoor
open SM
namespace FT
def seq {α : Type} (n : Nat) (k : Nat -> α) : α := Nat.rec (k 0) (fun m _ => k (Nat.succ m)) n
theorem seq_eq {α : Type} (n : Nat) (k : Nat -> α) : seq n k = k n := by cases n <;> rfl
def force : List Nat -> (List Nat -> List Nat) -> List Nat
  | [], k => k []
  | x :: l, k => seq x fun y => force l fun m => k (y :: m)
theorem force_eq : ∀ (l : List Nat) (k : List Nat -> List Nat), force l k = k l
  | [], _ => rfl
  | x :: l, k => by
    unfold force
    rw [seq_eq, force_eq l]
def ws : Nat -> List Nat -> List Nat
  | n + 1, [x0, x1, x2, x3, x4, x5, x6, x7, x8, x9, x10, x11, x12, x13, x14, x15] => seq ((s1 x14 + x9 + s0 x1 + x0) % 4294967296) fun y => x0 :: ws n [x1, x2, x3, x4, x5, x6, x7, x8, x9, x10, x11, x12, x13, x14, x15, y]
  | _, v => v
def xs : List Nat -> List Nat -> List Nat -> List Nat
  | w :: l, k :: m, [a, b, c, d, e, f, g, h] => seq ((h + S1 e + ch e f g + k + w) % 4294967296) fun t => seq ((t + (S0 a + mj a b c) % 4294967296) % 4294967296) fun a' => seq ((d + t) % 4294967296) fun e' => xs l m [a', a, b, c, e', e, f, g]
  | _, _, x => x
def w16 (b : List Nat) : List Nat := [be4 b 0, be4 b 4, be4 b 8, be4 b 12, be4 b 16, be4 b 20, be4 b 24, be4 b 28, be4 b 32, be4 b 36, be4 b 40, be4 b 44, be4 b 48, be4 b 52, be4 b 56, be4 b 60]
def add8 : List Nat -> List Nat -> List Nat
  | x :: l, y :: m => ((x + y) % 4294967296) :: add8 l m
  | _, _ => []
def fblk (h b : List Nat) : List Nat := force (w16 b) fun v => force (ws 48 v) fun w => force (add8 h (xs w kk h)) id
def fst : List Nat -> List Nat -> Nat -> List Nat
  | h, _, 0 => h
  | h, t, n + 1 => force (t.take 64) fun b => force (t.drop 64) fun r => force (fblk h b) fun g => fst g r n
def fsha (l : List Nat) : List Nat := force (text l) fun t => out (fst h0 t (t.length / 64))
theorem wTo_len (b : List Nat) : ∀ t, (wTo b t).length = 64
  | 0 => by unfold wTo; rw [List.length_replicate]
  | t + 1 => by unfold wTo; rw [List.length_set]; exact wTo_len b t
theorem wTo_keep (b : List Nat) (t k : Nat) (hk : k < t) : ∀ n, gb (wTo b (t + n)) k = gb (wTo b t) k
  | 0 => rfl
  | n + 1 => by
    rw [<- wTo_keep b t k hk n]
    show gb ((wTo b (t + n)).set (t + n) _) k = _
    by_cases h : t + n < (wTo b (t + n)).length
    . rw [gb_set _ _ _ _ h, if_neg (by omega)]
    . rw [List.set_eq_of_length_le (by omega)]
theorem w_at (b : List Nat) {t : Nat} (ht : t < 64) : gb (wTo b 64) t = if t < 16 then be4 b (4 * t) else wn (wTo b t) t := by
  have h := wTo_keep b (t + 1) t (by omega) (63 - t)
  rw [show t + 1 + (63 - t) = 64 by omega] at h
  rw [h]
  show gb ((wTo b t).set t _) t = _
  rw [gb_set _ _ _ _ (by rw [wTo_len]; omega), if_pos rfl]
theorem w_high (b : List Nat) {t : Nat} (ht : t + 16 < 64) : gb (wTo b 64) (t + 16) = (s1 (gb (wTo b 64) (t + 14)) + gb (wTo b 64) (t + 9) + s0 (gb (wTo b 64) (t + 1)) + gb (wTo b 64) t) % 4294967296 := by
  have keep : ∀ k, k < t + 16 -> gb (wTo b 64) k = gb (wTo b (t + 16)) k := fun k hk => by
    have h := wTo_keep b (t + 16) k hk (48 - t)
    rw [show t + 16 + (48 - t) = 64 by omega] at h
    exact h
  rw [w_at b ht, if_neg (by omega), keep (t + 14) (by omega), keep (t + 9) (by omega), keep (t + 1) (by omega), keep t (by omega)]
  unfold wn
  rw [show t + 16 - 2 = t + 14 by omega, show t + 16 - 7 = t + 9 by omega, show t + 16 - 15 = t + 1 by omega, show t + 16 - 16 = t by omega]
theorem ws_all (W : Nat -> Nat) (hW : ∀ t, t + 16 < 64 -> W (t + 16) = (s1 (W (t + 14)) + W (t + 9) + s0 (W (t + 1)) + W t) % 4294967296) : ∀ n t, t + n = 48 -> ws n ((List.range 16).map fun i => W (t + i)) = (List.range (n + 16)).map fun i => W (t + i)
  | 0, t, _ => by
    rw [Nat.zero_add]
    unfold ws
    rfl
  | n + 1, t, h => by
    have e : (List.range 16).map (fun i => W (t + i)) = [W (t + 0), W (t + 1), W (t + 2), W (t + 3), W (t + 4), W (t + 5), W (t + 6), W (t + 7), W (t + 8), W (t + 9), W (t + 10), W (t + 11), W (t + 12), W (t + 13), W (t + 14), W (t + 15)] := rfl
    rw [e]
    unfold ws
    rw [seq_eq, Nat.add_zero, <- hW t (by omega)]
    have q := ws_all W hW n (t + 1) (by omega)
    have e2 : (List.range 16).map (fun i => W (t + 1 + i)) = [W (t + 1), W (t + 2), W (t + 3), W (t + 4), W (t + 5), W (t + 6), W (t + 7), W (t + 8), W (t + 9), W (t + 10), W (t + 11), W (t + 12), W (t + 13), W (t + 14), W (t + 15), W (t + 16)] := by
      show [_, _, _, _, _, _, _, _, _, _, _, _, _, _, _, _] = _
      simp only [Nat.add_assoc]
    rw [e2] at q
    rw [q, show List.range (n + 1 + 16) = 0 :: (List.range (n + 16)).map Nat.succ by rw [show n + 1 + 16 = (n + 16) + 1 by omega]; exact List.range_succ_eq_map, List.map_cons, List.map_map, Nat.add_zero]
    refine congrArg (List.cons _) (List.map_congr_left fun i _ => ?_)
    show _ = W (t + (i + 1))
    rw [show t + 1 + i = t + (i + 1) by omega]
theorem list_gb (l : List Nat) (n : Nat) (h : l.length = n) : (List.range n).map (fun i => gb l i) = l := by
  refine List.ext_getElem? fun i => ?_
  rw [List.getElem?_map]
  by_cases hi : i < n
  . rw [List.getElem?_range hi, List.getElem?_eq_getElem (by omega)]
    show some (gb l i) = _
    unfold gb
    rw [List.getD_eq_getElem?_getD, List.getElem?_eq_getElem (by omega)]
    rfl
  . rw [List.getElem?_eq_none (by rw [List.length_range]; omega), List.getElem?_eq_none (by omega)]
    rfl
theorem ws_eq (b : List Nat) : ws 48 (w16 b) = wTo b 64 := by
  have h := ws_all (gb (wTo b 64)) (fun t ht => w_high b ht) 48 0 rfl
  have e : w16 b = (List.range 16).map fun i => gb (wTo b 64) (0 + i) := by
    have q : ∀ i, i < 16 -> gb (wTo b 64) (0 + i) = be4 b (4 * i) := fun i hi => by rw [Nat.zero_add, w_at b (by omega), if_pos hi]
    rw [show (List.range 16).map (fun i => gb (wTo b 64) (0 + i)) = (List.range 16).map fun i => be4 b (4 * i) from List.map_congr_left fun i hi => q i (List.mem_range.1 hi)]
    rfl
  rw [e, h]
  simp only [Nat.zero_add]
  exact list_gb _ 64 (wTo_len b 64)
theorem eight {l : List Nat} (h : l.length = 8) : ∃ a b c d e f g i, l = [a, b, c, d, e, f, g, i] := by
  match l, h with
  | [a, b, c, d, e, f, g, i], _ => exact ⟨a, b, c, d, e, f, g, i, rfl⟩
theorem xs_all {h : List Nat} (hh : Words 8 h) (w : List Nat) (hw : w.length = 64) : ∀ n t, t + n = 64 -> xs (w.drop t) (kk.drop t) (xTo h w t) = xTo h w 64
  | 0, t, e => by
    obtain rfl : t = 64 := by omega
    rw [List.drop_of_length_le (by omega), List.drop_of_length_le (by decide)]
    rfl
  | n + 1, t, e => by
    have q := xs_all hh w hw n (t + 1) (by omega)
    have hk : kk.length = 64 := by decide
    rw [List.drop_eq_getElem_cons (by omega : t < w.length), List.drop_eq_getElem_cons (by omega : t < kk.length)]
    have gw : w[t] = gb w t := by unfold gb; rw [List.getD_eq_getElem?_getD, List.getElem?_eq_getElem (by omega)]; rfl
    have gk : kk[t] = gb kk t := by unfold gb; rw [List.getD_eq_getElem?_getD, List.getElem?_eq_getElem (by omega)]; rfl
    rw [gw, gk]
    have hx : xTo h w (t + 1) = rnd (xTo h w t) (gb kk t) (gb w t) := rfl
    rw [hx] at q
    obtain ⟨a, b, c, d, e, f, g, i, hl⟩ := eight (xTo_w (w := w) hh t).1
    rw [hl] at q ⊢
    unfold xs
    rw [seq_eq, seq_eq, seq_eq]
    exact q
theorem add8_eq {h x : List Nat} (hh : h.length = 8) (hx : x.length = 8) : add8 h x = aTo h x 8 := by
  obtain ⟨a, b, c, d, e, f, g, i, rfl⟩ := eight hh
  obtain ⟨a', b', c', d', e', f', g', i', rfl⟩ := eight hx
  rfl
theorem fblk_eq {h : List Nat} (hh : Words 8 h) (b : List Nat) : fblk h b = blk h b := by
  unfold fblk blk
  rw [force_eq, force_eq, force_eq, ws_eq]
  have q := xs_all hh (wTo b 64) (wTo_len b 64) 64 0 rfl
  rw [List.drop_zero, List.drop_zero] at q
  rw [show xs (wTo b 64) kk h = xTo h (wTo b 64) 64 from q, add8_eq hh.1 (xTo_w hh 64).1]
  rfl
theorem stTo_w (t : List Nat) : ∀ n, Words 8 (stTo t n)
  | 0 => h0_w
  | n + 1 => blk_w (stTo_w t n)
theorem fst_all (t : List Nat) : ∀ n i, fst (stTo t i) (t.drop (64 * i)) n = stTo t (i + n)
  | 0, i => by unfold fst; rfl
  | n + 1, i => by
    unfold fst
    rw [force_eq, force_eq, force_eq, fblk_eq (stTo_w t i), List.drop_drop, show 64 * i + 64 = 64 * (i + 1) by omega]
    have q := fst_all t n (i + 1)
    rw [show i + (n + 1) = i + 1 + n by omega, <- q]
    rfl
theorem fsha_eq (l : List Nat) : fsha l = sha l := by
  unfold fsha sha
  rw [force_eq]
  have q := fst_all (text l) ((text l).length / 64) 0
  rw [Nat.mul_zero, List.drop_zero, Nat.zero_add] at q
  rw [<- q]
  rfl
end FT
end Go.Proofs.YtflnodkajhokhaaDoor
end

section
namespace Go.Proofs.YtflnodkajhokhaaDoor
open SM
def SU.some (n k p : Nat) : Bool := (List.range n).all fun c => (FT.fsha (SU.laid (c + k) p)).any (· != 0)
theorem SU.some_1_1 : SU.some 8 1 1 = true := by decide +kernel
theorem SU.some_9_1 : SU.some 8 9 1 = true := by decide +kernel
theorem SU.some_17_1 : SU.some 8 17 1 = true := by decide +kernel
theorem SU.some_25_1 : SU.some 8 25 1 = true := by decide +kernel
theorem SU.some_33_1 : SU.some 8 33 1 = true := by decide +kernel
theorem SU.some_41_1 : SU.some 8 41 1 = true := by decide +kernel
theorem SU.some_49_1 : SU.some 8 49 1 = true := by decide +kernel
theorem SU.some_57_1 : SU.some 8 57 1 = true := by decide +kernel
theorem SU.some_1_2 : SU.some 8 1 2 = true := by decide +kernel
theorem SU.some_9_2 : SU.some 8 9 2 = true := by decide +kernel
theorem SU.some_17_2 : SU.some 8 17 2 = true := by decide +kernel
theorem SU.some_25_2 : SU.some 8 25 2 = true := by decide +kernel
theorem SU.some_33_2 : SU.some 8 33 2 = true := by decide +kernel
theorem SU.some_41_2 : SU.some 8 41 2 = true := by decide +kernel
theorem SU.some_49_2 : SU.some 8 49 2 = true := by decide +kernel
theorem SU.some_57_2 : SU.some 8 57 2 = true := by decide +kernel
theorem SU.some_at {n k p c : Nat} (h : SU.some n k p = true) (h1 : k <= c) (h2 : c < k + n) : sha (SU.laid c p) ≠ List.replicate 32 0 := fun q => by
  have g := List.all_eq_true.1 h (c - k) (List.mem_range.2 (by omega))
  rw [show c - k + k = c by omega, FT.fsha_eq, q] at g
  revert g
  decide
theorem SU.some_any {c p : Nat} (hc : 1 <= c /\ c <= 64) (hp : 1 <= p /\ p <= 2) : sha (SU.laid c p) ≠ List.replicate 32 0 := by
  rcases (show p = 1 \/ p = 2 by omega) with rfl | rfl
  . rcases (show c < 9 \/ (9 <= c /\ c < 17) \/ (17 <= c /\ c < 25) \/ (25 <= c /\ c < 33) \/ (33 <= c /\ c < 41) \/ (41 <= c /\ c < 49) \/ (49 <= c /\ c < 57) \/ 57 <= c by omega) with h | h | h | h | h | h | h | h
    . exact SU.some_at SU.some_1_1 hc.1 h
    . exact SU.some_at SU.some_9_1 h.1 h.2
    . exact SU.some_at SU.some_17_1 h.1 h.2
    . exact SU.some_at SU.some_25_1 h.1 h.2
    . exact SU.some_at SU.some_33_1 h.1 h.2
    . exact SU.some_at SU.some_41_1 h.1 h.2
    . exact SU.some_at SU.some_49_1 h.1 h.2
    . exact SU.some_at SU.some_57_1 h (by omega)
  . rcases (show c < 9 \/ (9 <= c /\ c < 17) \/ (17 <= c /\ c < 25) \/ (25 <= c /\ c < 33) \/ (33 <= c /\ c < 41) \/ (41 <= c /\ c < 49) \/ (49 <= c /\ c < 57) \/ 57 <= c by omega) with h | h | h | h | h | h | h | h
    . exact SU.some_at SU.some_1_2 hc.1 h
    . exact SU.some_at SU.some_9_2 h.1 h.2
    . exact SU.some_at SU.some_17_2 h.1 h.2
    . exact SU.some_at SU.some_25_2 h.1 h.2
    . exact SU.some_at SU.some_33_2 h.1 h.2
    . exact SU.some_at SU.some_41_2 h.1 h.2
    . exact SU.some_at SU.some_49_2 h.1 h.2
    . exact SU.some_at SU.some_57_2 h (by omega)
theorem SU.sum_zero {C P : Int} : SU.sum C P = List.replicate 32 0 ↔ SU.may C P = false := by
  unfold SU.sum
  cases h : SU.may C P with
  | false => exact ⟨fun _ => rfl, fun _ => by rw [if_neg (by decide)]⟩
  | true =>
    rw [if_pos rfl]
    have hm := SU.may_iff.1 h
    exact ⟨fun q => absurd q (SU.some_any (by omega) (by omega)), fun q => by cases q⟩
end Go.Proofs.YtflnodkajhokhaaDoor
end

section
namespace Go.Proofs.YtflnodkajhokhaaDoor
open Go.ChangeShapes Go.WideShapes Go.ChangeAt Go.RowKit
open RT XM AM SM
def SP.fresh (cl per : Nat) (K : List Nat) : SP.Sp := ⟨cl, per, klabel K [100, 97, 116, 97, 32, 111, 110, 101], klabel K [100, 97, 116, 97, 32, 116, 119, 111], klabel K [116, 97, 103]⟩
theorem SP.fresh_ok {cl per : Nat} (hc : 1 <= cl /\ cl <= 64) (hp : 1 <= per /\ per <= 2) (K : List Nat) : SP.Ok (SP.fresh cl per K) := ⟨hc, hp, sha_bytes _, sha_bytes _, sha_bytes _⟩
end Go.Proofs.YtflnodkajhokhaaDoor
end

section
namespace Go.Proofs.YtflnodkajhokhaaDoor
open Go.ChangeShapes Go.WideShapes Go.ChangeAt Go.RowKit
open RT XM AM SM
theorem SU.sum_bytes (C P : Int) : Bytes 32 (SU.sum C P) := by
  unfold SU.sum
  split
  . exact sha_bytes _
  . exact bytes_zero 32
def sppz : List Value := .pointer none :: .int .i64 0 :: .int .i64 0 :: .pointer none :: row8 (List.replicate 32 0)
theorem sppz_len : sppz.length = 36 := rfl
theorem built_spp0 (a b c e : Value) : Tryd.prog.built 58 [(0, a), (1, b), (2, c), (3, e)] = Instr.fill (#[(0, 1), (1, 2), (3, 1), (4, 32)][·]?) sppz.toArray [(0, a), (1, b), (2, c), (3, e)] := by kernel_rfl
theorem built_spp (d x cl per : Nat) {T : List Nat} (hT : T.length = 32) : Tryd.prog.built 58 [(0, .pointer (some ⟨d, 0, none⟩)), (1, .agg [Value.int .i64 (cl : Int), .int .i64 (per : Int)].toArray), (2, .pointer (some ⟨x, 0, none⟩)), (3, .agg (row8 T).toArray)] = some (.pointer (some ⟨d, 0, none⟩) :: .int .i64 (cl : Int) :: .int .i64 (per : Int) :: .pointer (some ⟨x, 0, none⟩) :: row8 T).toArray := by
  have hT8 : (row8 T).length = 32 := by rw [row8_len, hT]
  have e1 : splice sppz 0 [Value.pointer (some ⟨d, 0, none⟩)] = .pointer (some ⟨d, 0, none⟩) :: .int .i64 0 :: .int .i64 0 :: .pointer none :: row8 (List.replicate 32 0) := rfl
  have e2 : splice (Value.pointer (some ⟨d, 0, none⟩) :: .int .i64 0 :: .int .i64 0 :: .pointer none :: row8 (List.replicate 32 0)) 1 [Value.int .i64 (cl : Int), .int .i64 (per : Int)] = .pointer (some ⟨d, 0, none⟩) :: .int .i64 (cl : Int) :: .int .i64 (per : Int) :: .pointer none :: row8 (List.replicate 32 0) := rfl
  have e3 : splice (Value.pointer (some ⟨d, 0, none⟩) :: .int .i64 (cl : Int) :: .int .i64 (per : Int) :: .pointer none :: row8 (List.replicate 32 0)) 3 [Value.pointer (some ⟨x, 0, none⟩)] = .pointer (some ⟨d, 0, none⟩) :: .int .i64 (cl : Int) :: .int .i64 (per : Int) :: .pointer (some ⟨x, 0, none⟩) :: row8 (List.replicate 32 0) := rfl
  have e4 : splice (Value.pointer (some ⟨d, 0, none⟩) :: .int .i64 (cl : Int) :: .int .i64 (per : Int) :: .pointer (some ⟨x, 0, none⟩) :: row8 (List.replicate 32 0)) 4 (row8 T) = .pointer (some ⟨d, 0, none⟩) :: .int .i64 (cl : Int) :: .int .i64 (per : Int) :: .pointer (some ⟨x, 0, none⟩) :: row8 T := by
    unfold splice
    rw [hT8]
    show _ :: _ :: _ :: _ :: (row8 T ++ []) = _
    rw [List.append_nil]
  rw [built_spp0, fill_step _ 0 0 1 rfl (.pointer (some ⟨d, 0, none⟩)) [.pointer (some ⟨d, 0, none⟩)] rfl rfl sppz (by rw [sppz_len]; decide), e1,
    fill_step _ 1 1 2 rfl (.agg [Value.int .i64 (cl : Int), .int .i64 (per : Int)].toArray) [.int .i64 (cl : Int), .int .i64 (per : Int)] rfl rfl _ (by exact (by decide : 3 <= 36)), e2,
    fill_step _ 2 3 1 rfl (.pointer (some ⟨x, 0, none⟩)) [.pointer (some ⟨x, 0, none⟩)] rfl rfl _ (by exact (by decide : 4 <= 36)), e3,
    fill_step _ 3 4 32 rfl (.agg (row8 T).toArray) (row8 T) rfl hT8 _ (by exact (by decide : 36 <= 36)), e4, fill_nil]
set_option maxRecDepth 100000 in
set_option maxHeartbeats 4000000 in
theorem spcnew_ok (d cl per : Nat) (hc : 1 <= cl /\ cl <= 64) (hp : 1 <= per /\ per <= 2) (K : List Nat) (hK : Bytes 32 K) (w : World) (tx : TabX w) (tp : TabP w) : Calls Tryd.prog 7 #[.pointer (some ⟨d, 0, none⟩), .agg #[.int .i64 (cl : Int), .int .i64 (per : Int)], .agg (row8 K).toArray] w fun e w' => ∃ s, e = .returned (.pointer (some ⟨s, 0, none⟩)) /\ Spa (fun k => w.heap.size <= k /\ k < w'.heap.size) w' s d (SP.fresh cl per K) /\ Below w.heap.size w w' := by
  have hmay : SU.may (cl : Int) (per : Int) = true := SU.may_iff.2 (by omega)
  have b1 : Bytes 32 (SP.fresh cl per K).one := sha_bytes _
  have b2 : Bytes 32 (SP.fresh cl per K).two := sha_bytes _
  have b3 : Bytes 32 (SP.fresh cl per K).tag := sha_bytes _
  have HL1 := Lib.hid (fun W (hW : Below w.heap.size w W) => (show Calls Tryd.prog 16 #[.agg (row8 K).toArray, .string { data := #[100, 97, 116, 97, 32, 111, 110, 101] }] W fun e w' => e = .returned (.agg (row8 (SP.fresh cl per K).one).toArray) /\ Below W.heap.size W w' from klabel_any K hK { data := #[100, 97, 116, 97, 32, 111, 110, 101] } (by decide) W (tp.below hW)))
  have HL2 := Lib.hid (fun W (hW : Below w.heap.size w W) => (show Calls Tryd.prog 16 #[.agg (row8 K).toArray, .string { data := #[100, 97, 116, 97, 32, 116, 119, 111] }] W fun e w' => e = .returned (.agg (row8 (SP.fresh cl per K).two).toArray) /\ Below W.heap.size W w' from klabel_any K hK { data := #[100, 97, 116, 97, 32, 116, 119, 111] } (by decide) W (tp.below hW)))
  have HL3 := Lib.hid (fun W (hW : Below w.heap.size w W) => (show Calls Tryd.prog 16 #[.agg (row8 K).toArray, .string { data := #[116, 97, 103] }] W fun e w' => e = .returned (.agg (row8 (SP.fresh cl per K).tag).toArray) /\ Below W.heap.size W w' from klabel_any K hK { data := #[116, 97, 103] } (by decide) W (tp.below hW)))
  have HXN := Lib.hid (fun W (hW : Below w.heap.size w W) => xt_newN (SP.fresh cl per K).one (SP.fresh cl per K).two b1 b2 W (tx.below hW))
  have HBU := Lib.hid (fun x => (show Tryd.prog.built 58 [(0, .pointer (some ⟨d, 0, none⟩)), (1, .agg [Value.int .i64 (cl : Int), .int .i64 (per : Int)].toArray), (2, .pointer (some ⟨x, 0, none⟩)), (3, .agg (row8 (SP.fresh cl per K).tag).toArray)] = some (spp d x (SP.fresh cl per K)).toArray from built_spp d x cl per b3.1))
  obtain ⟨GC, hGC⟩ : ∃ x, x = [Value.int .i64 ((cl : Int)), .int .i64 ((per : Int))] := ⟨_, rfl⟩
  rw [show (#[Value.int .i64 ((cl : Int)), .int .i64 ((per : Int))] : Array Value) = GC.toArray by rw [hGC]]
  have GC2 := Lib.hid (show GC.length = 2 by rw [hGC]; rfl)
  rw [<- hGC] at HBU
  have HSU := Lib.hid (fun W (hW : Below w.heap.size w W) => susum_any ((cl : Int)) ((per : Int)) W (tp.below hW))
  rw [show (#[Value.int .i64 ((cl : Int)), .int .i64 ((per : Int))] : Array Value) = GC.toArray by rw [hGC]] at HSU
  obtain ⟨D0, hD0⟩ : ∃ D, D = row8 (List.replicate 32 0) := ⟨_, rfl⟩
  have hbu : Tryd.prog.built 35 [] = some D0.toArray := by rw [hD0]; exact builtSu
  have HEQ := Lib.hid (fun W => run_eql_sum (SU.sum_bytes ((cl : Int)) ((per : Int))) (bytes_zero 32) W)
  rw [<- hD0, decide_eq_false (fun q => by rw [SU.sum_zero.1 q] at hmay; cases hmay)] at HEQ
  obtain ⟨SU0, hSU⟩ : ∃ x, x = row8 (SU.sum ((cl : Int)) ((per : Int))) := ⟨_, rfl⟩
  rw [<- hSU] at HEQ HSU
  have KC32 := Lib.hid (show (row8 K).length = 32 by rw [row8_len]; exact hK.1)
  obtain ⟨KC, hKC⟩ : ∃ x, x = row8 K := ⟨_, rfl⟩
  obtain ⟨L1, h1⟩ : ∃ x, x = row8 (SP.fresh cl per K).one := ⟨_, rfl⟩
  obtain ⟨L2, h2⟩ : ∃ x, x = row8 (SP.fresh cl per K).two := ⟨_, rfl⟩
  obtain ⟨L3, h3⟩ : ∃ x, x = row8 (SP.fresh cl per K).tag := ⟨_, rfl⟩
  rw [<- hKC] at HL1 HL2 HL3 KC32 ⊢
  rw [<- h1] at HL1 HXN
  rw [<- h2] at HL2 HXN
  rw [<- h3] at HL3 HBU
  obtain ⟨w1, hw1⟩ : ∃ x, x = (w.alloc (.cells GC.toArray 33)).alloc (.cells KC.toArray 23) := ⟨_, rfl⟩
  have W1 := Lib.hid (show Below w.heap.size w w1 by rw [hw1]; exact ((Below.refl w.heap.size w).alloc (Nat.le_refl _) (.cells GC.toArray 33)).alloc (by simp) _)
  have G1 := Lib.hid (show Blk w1 w.heap.size 33 GC by rw [hw1]; exact (Blk.new w 33 GC _ rfl).alloc _)
  have K1 := Lib.hid (show Blk w1 (w.heap.size + 1) 23 KC by rw [hw1]; exact Blk.new _ 23 KC (w.heap.size + 1) (by simp))
  clear hGC hD0 hSU hKC h1 h2 h3 b1 b2 b3 hmay hc hp hK tx tp
  go_enter Tryd.func7, Tryd.ntmps7
  go_upto_region 1 with fail
  rw [<- hw1]
  clear hw1
  go_upto_region 3 with (first
      | ((with_reducible show wpList _ _ _ (Oper.mk _ (.load _ (.tmp 4)) _ _ _ _ :: _) _ _); refine wpList_load_wanted rfl 33 (.tmp 4) rfl w.heap.size 0 rfl GC _ G1.out.range Tryd.underlying33 rfl (by rw [GC2.out]; exact infoGeoP) ?_)
      | (go_at_call 14; (with_reducible refine (HSU.out _ W1.out).mono ?_); rintro e w2 ⟨rfl, b2⟩; have W2 := Lib.hid (W1.out.on b2); have G2 := Lib.hid (G1.out.below b2 G1.out.lt); have K2 := Lib.hid (K1.out.below b2 K1.out.lt); clear b2)
      | ((with_reducible show wpList _ _ _ (Oper.mk (some 12) (.build _ _) _ _ _ _ :: _) _ _); refine wpList_wanted rfl (.agg D0.toArray) (ex_build0 rfl hbu) ?_)
      | ((with_reducible show wpList _ _ _ (Oper.mk (some 13) (.binOp _ _ _ _ _) _ _ _ _ :: _) _ _); refine wpList_wanted rfl (.bool false) (ex_binOp (x := .tmp 11) (y := .tmp 12) (b := .eql) (t := 35) rfl rfl rfl (run_eqGuard_agg _ _ _ _ _ _ _ eqTypeS) (HEQ.out _)) ?_))
  obtain ⟨w5, hw5⟩ : ∃ x, x = w2 := ⟨_, rfl⟩
  rw [<- hw5] at W2 G2 K2 ⊢
  clear W1 G1 K1 hw5
  refine wp_region_l (by kernel_rfl) 10 (by decide) (by kernel_rfl) (by kernel_rfl) (by kernel_rfl) [.val (.pointer (some ⟨d, 0, none⟩)), .val (.agg GC.toArray), .val (.agg KC.toArray), .val (.agg L1.toArray), .val (.agg KC.toArray), .val (.agg L2.toArray), ⟨fun v W => ∃ x c e, v = .pointer (some ⟨x, 0, none⟩) /\ (w.heap.size <= x /\ w.heap.size <= c /\ w.heap.size <= e) /\ Blk W x 75 [.pointer (some ⟨c, 0, none⟩), .pointer (some ⟨e, 0, none⟩)] /\ Cph W c (SP.fresh cl per K).one /\ Cph W e (SP.fresh cl per K).two, fun h k => by obtain ⟨x, c, e, h0, h1, h2, h3, h4⟩ := h; exact ⟨x, c, e, h0, h1, h2.below k h2.lt, h3.below k, h4.below k⟩⟩, .val (.agg KC.toArray), .val (.agg L3.toArray), ⟨fun v W => ∃ x c e, v = .agg (spp d x (SP.fresh cl per K)).toArray /\ (w.heap.size <= x /\ w.heap.size <= c /\ w.heap.size <= e) /\ Blk W x 75 [.pointer (some ⟨c, 0, none⟩), .pointer (some ⟨e, 0, none⟩)] /\ Cph W c (SP.fresh cl per K).one /\ Cph W e (SP.fresh cl per K).two, fun h k => by obtain ⟨x, c, e, h0, h1, h2, h3, h4⟩ := h; exact ⟨x, c, e, h0, h1, h2.below k h2.lt, h3.below k, h4.below k⟩⟩] ?_ ?_
  . refine ⟨?_, ?_, ?_, ?_, ?_, ?_, ?_, ?_, ?_, ?_, trivial⟩
    . intro a w' hF hB hd
      have e0 : a.eval (.tmp 0) = .pointer (some ⟨d, 0, none⟩) := hF 0 (by decide +kernel)
      exact doesL_val rfl (ex_move rfl e0) rfl
    . intro a w' hF hB hd
      have e4 : a.eval (.tmp 4) = .pointer (some ⟨w.heap.size, 0, none⟩) := hF 4 (by decide +kernel)
      exact doesL_val rfl (ex_load_part 33 (.tmp 4) rfl w.heap.size 0 e4 GC _ ((G2.out.below hB G2.out.lt).range) Tryd.underlying33 rfl (by rw [GC2.out]; exact infoGeoP)) rfl
    . intro a w' hF hB hd
      have e5 : a.eval (.tmp 5) = .pointer (some ⟨(w.heap.size + 1), 0, none⟩) := hF 5 (by decide +kernel)
      exact doesL_val rfl (ex_load_part 23 (.tmp 5) rfl (w.heap.size + 1) 0 e5 KC _ ((K2.out.below hB K2.out.lt).range) Tryd.underlying23 rfl (by rw [KC32.out]; exact infoKeyP)) rfl
    . intro a w' hF hB hd
      have e17 : a.eval (.tmp 17) = .agg KC.toArray := hd 2 (by decide +kernel)
      exact doesL_call rfl (ex_call (vs := #[.agg KC.toArray, .string { data := #[100, 97, 116, 97, 32, 111, 110, 101] }]) rfl (by simp only [List.map_toArray, List.map_cons, List.map_nil, e17]; rfl) (by go_simp)) ((HL1.out w' (W2.out.on hB)).mono fun e w3 hh => ⟨_, hh.1, rfl, hh.2⟩)
    . intro a w' hF hB hd
      have e5 : a.eval (.tmp 5) = .pointer (some ⟨(w.heap.size + 1), 0, none⟩) := hF 5 (by decide +kernel)
      exact doesL_val rfl (ex_load_part 23 (.tmp 5) rfl (w.heap.size + 1) 0 e5 KC _ ((K2.out.below hB K2.out.lt).range) Tryd.underlying23 rfl (by rw [KC32.out]; exact infoKeyP)) rfl
    . intro a w' hF hB hd
      have e19 : a.eval (.tmp 19) = .agg KC.toArray := hd 4 (by decide +kernel)
      exact doesL_call rfl (ex_call (vs := #[.agg KC.toArray, .string { data := #[100, 97, 116, 97, 32, 116, 119, 111] }]) rfl (by simp only [List.map_toArray, List.map_cons, List.map_nil, e19]; rfl) (by go_simp)) ((HL2.out w' (W2.out.on hB)).mono fun e w3 hh => ⟨_, hh.1, rfl, hh.2⟩)
    . intro a w' hF hB hd
      have e18 : a.eval (.tmp 18) = .agg L1.toArray := hd 3 (by decide +kernel)
      have e20 : a.eval (.tmp 20) = .agg L2.toArray := hd 5 (by decide +kernel)
      exact doesL_call rfl (ex_call (vs := #[.agg L1.toArray, .agg L2.toArray]) rfl (by simp only [List.map_toArray, List.map_cons, List.map_nil, e18, e20]) (by go_simp)) ((HXN.out w' (W2.out.on hB)).mono fun r w3 hh => by obtain ⟨x, c, e, h1, he, h2, h3, h4, hb⟩ := hh; have hs := (W2.out.on hB).size; exact ⟨_, he, ⟨x, c, e, rfl, ⟨by omega, by omega, by omega⟩, h2, h3, h4⟩, hb⟩)
    . intro a w' hF hB hd
      have e5 : a.eval (.tmp 5) = .pointer (some ⟨(w.heap.size + 1), 0, none⟩) := hF 5 (by decide +kernel)
      exact doesL_val rfl (ex_load_part 23 (.tmp 5) rfl (w.heap.size + 1) 0 e5 KC _ ((K2.out.below hB K2.out.lt).range) Tryd.underlying23 rfl (by rw [KC32.out]; exact infoKeyP)) rfl
    . intro a w' hF hB hd
      have e22 : a.eval (.tmp 22) = .agg KC.toArray := hd 7 (by decide +kernel)
      exact doesL_call rfl (ex_call (vs := #[.agg KC.toArray, .string { data := #[116, 97, 103] }]) rfl (by simp only [List.map_toArray, List.map_cons, List.map_nil, e22]; rfl) (by go_simp)) ((HL3.out w' (W2.out.on hB)).mono fun e w3 hh => ⟨_, hh.1, rfl, hh.2⟩)
    . intro a w' hF hB hd
      have e15 : a.eval (.tmp 15) = .pointer (some ⟨d, 0, none⟩) := hd 0 (by decide +kernel)
      have e16 : a.eval (.tmp 16) = .agg GC.toArray := hd 1 (by decide +kernel)
      have e23 : a.eval (.tmp 23) = .agg L3.toArray := hd 8 (by decide +kernel)
      obtain ⟨x, c, e, e21, hx⟩ : ∃ x c e, a.eval (.tmp 21) = .pointer (some ⟨x, 0, none⟩) /\ (w.heap.size <= x /\ w.heap.size <= c /\ w.heap.size <= e) /\ Blk w' x 75 [.pointer (some ⟨c, 0, none⟩), .pointer (some ⟨e, 0, none⟩)] /\ Cph w' c (SP.fresh cl per K).one /\ Cph w' e (SP.fresh cl per K).two := hd 6 (by decide +kernel)
      exact doesL_val rfl (ex_build rfl (by simp only [List.map_toArray, List.map_cons, List.map_nil, e15, e16, e21, e23]; exact HBU.out x)) ⟨x, c, e, rfl, hx⟩
  . intro vs w4 hB hv
    obtain ⟨x, c, e, e24, hx⟩ : ∃ x c e, vs 9 = .agg (spp d x (SP.fresh cl per K)).toArray /\ (w.heap.size <= x /\ w.heap.size <= c /\ w.heap.size <= e) /\ Blk w4 x 75 [.pointer (some ⟨c, 0, none⟩), .pointer (some ⟨e, 0, none⟩)] /\ Cph w4 c (SP.fresh cl per K).one /\ Cph w4 e (SP.fresh cl per K).two := hv 9 (by decide)
    obtain ⟨NS, hNS⟩ : ∃ y, y = spp d x (SP.fresh cl per K) := ⟨_, rfl⟩
    rw [<- hNS] at e24
    simp only [List.take_succ_cons, List.take_zero, List.drop_succ_cons, List.drop_zero, putOps, Act.put, List.setIfInBounds_toArray, List.set_cons_zero, List.set_cons_succ, e24]
    have W4 := Lib.hid (W2.out.on hB)
    have HX := Lib.hid hx
    have HNS := Lib.hid hNS
    clear hv e24 hB hx hNS
    generalize vs 0 = z0
    generalize vs 1 = z1
    generalize vs 2 = z2
    generalize vs 3 = z3
    generalize vs 4 = z4
    generalize vs 5 = z5
    generalize vs 6 = z6
    generalize vs 7 = z7
    generalize vs 8 = z8
    go_wp2_with fail
    go_ret
    have ba := (Below.refl w4.heap.size w4).alloc (Nat.le_refl _) (.cells NS.toArray 58)
    refine ⟨w4.heap.size, rfl, ⟨x, c, e, ⟨⟨W4.out.size, by simp⟩, ⟨HX.out.1.1, ?_⟩, ⟨HX.out.1.2.1, ?_⟩, ⟨HX.out.1.2.2, ?_⟩⟩, ?_, HX.out.2.1.below ba HX.out.2.1.lt, HX.out.2.2.1.below ba, HX.out.2.2.2.below ba⟩, W4.out.alloc W4.out.size _⟩
    . have := HX.out.2.1.lt; simp; omega
    . have := HX.out.2.2.1.lt; simp; omega
    . have := HX.out.2.2.2.lt; simp; omega
    . rw [<- HNS.out]; exact Blk.new w4 58 NS _ rfl
end Go.Proofs.YtflnodkajhokhaaDoor
end

section
namespace Go.Proofs.YtflnodkajhokhaaDoor
open RT XM AM DM
namespace SP
structure Few (S : DS) (n : Nat) : Prop where
  ok : DM.Ok S
  steps : S.steps <= n
  loose : S.loose.length <= 4 * n
  after : S.after <= 9223372036854775807
theorem Few.tame {S : DS} {n : Nat} (h : Few S n) (hn : n <= 1000) : Tame S := ⟨h.ok, by have := h.steps; omega, by have := h.loose; omega, h.after⟩
theorem Few.beg : Few SP.beg 0 := ⟨SP.beg_ok, by rw [SP.beg_eq]; exact Nat.zero_le _, by rw [SP.beg_eq]; exact Nat.zero_le _, by rw [SP.beg_eq]; show 0 <= _; omega⟩
theorem step_after (d x : DS) (n : Nat) (h1 : d.after <= n) (h2 : x.after <= n) : (DM.step d x).1.after <= n := by
  unfold DM.step
  split
  . exact h2
  . split
    . show x.after - 1 <= n; omega
    . show (if d.done then x else d).after <= n
      split
      . exact h2
      . exact h1
theorem Few.write {S : DS} {n : Nat} (h : Few S n) (a : Int) {b : List Nat} (hb : ∀ k, gb b k < 256) (hl : b.length <= 1024) : Few (DM.write S a b).1 (n + 1) := by
  refine ⟨h.ok.write a b hb, ?_, ?_, ?_⟩
  . have := DM.write_steps S a b; have := h.steps; omega
  . have := DM.write_loose S a b; have := h.loose; omega
  . unfold DM.write
    split
    . exact h.after
    . split
      . exact h.after
      . split
        . exact h.after
        . exact step_after _ _ _ h.after h.after
theorem Few.load {S : DS} {n : Nat} (h : Few S n) {b : List Nat} (hb : ∀ k, gb b k < 256) : Few (DM.load S b) n := by
  refine ⟨h.ok.load b hb, ?_, ?_, ?_⟩
  . unfold DM.load; split <;> exact h.steps
  . unfold DM.load
    split
    . exact h.loose
    . exact Nat.zero_le _
  . unfold DM.load; split <;> exact h.after
theorem Few.lay {S : DS} {m : Nat} (h : Few S m) (p : Sp) (n : Nat) {b : List Nat} (hb : ∀ k, gb b k < 256) (hl : b.length <= 1024) : Few (SP.lay p S n b).1 (m + 1) := h.write _ hb hl
theorem sealed_byte {p : Sp} (hp : Ok p) (n : Nat) (b : List Nat) : ∀ k, gb (sealed p n b) k < 256 := by
  unfold sealed xseal
  exact sealTo_byte (keys_bytes hp.one) (keys_bytes hp.two) _ _ _
theorem sealed_len3 {s : Sp} (hs : Ok s) (n : Nat) {b : List Nat} (hb : b.length = size s) : (sealed s n b).length = size s := by
  unfold sealed xseal
  rw [sealTo_len (keys_bytes hs.one) (keys_bytes hs.two), hb]
  unfold size
  omega
theorem size_le {p : Sp} (hp : Ok p) : size p <= 1024 := by unfold size; have := hp.per; omega
theorem padTo_byte' {l : List Nat} (n : Nat) (h : ∀ k, gb l k < 256) (k : Nat) : gb (padTo l n) k < 256 := gb_app l _ h (bytes_zero _).2 k
theorem ones_byte3 : ∀ (ps : List Pg), (∀ p ∈ ps, Pok p) -> ∀ k, gb (ones ps) k < 256 := by
  intro ps
  induction ps with
  | nil => intro _ k; show gb [] k < 256; rw [gb_nil]; omega
  | cons a r ih =>
    intro h k
    show gb (one a ++ ones r) k < 256
    exact gb_app _ _ (fun j => gb_app _ _ (be_byte _ _) (h a (by simp)).2.2 j) (ih (fun p hp => h p (by simp [hp]))) k
end SP
end Go.Proofs.YtflnodkajhokhaaDoor
end

section
namespace Go.Proofs.YtflnodkajhokhaaDoor
open RT XM AM SM
namespace SP
def aK : List Nat := 1 :: List.replicate 31 0
theorem aK_ok : Bytes 32 aK := ⟨by decide, fun k => by
  unfold gb aK
  rw [List.getD_eq_getElem?_getD]
  cases k with
  | zero => decide
  | succ k =>
    rw [List.getElem?_cons_succ, List.getElem?_replicate]
    split <;> decide⟩
def aS : Sp := fresh 8 1 aK
theorem aS_ok : Ok aS := fresh_ok (by decide) (by decide) aK
def aB : List Nat := List.replicate 512 0
theorem aB_len : aB.length = size aS := by unfold aB size aS fresh; rw [List.length_replicate]; rfl
theorem aB_byte (k : Nat) : gb aB k < 256 := (bytes_zero 512).2 k
def aC : List Nat := sealed aS 0 aB
theorem aC_len : aC.length = size aS := by
  unfold aC sealed xseal
  rw [sealTo_len (keys_bytes aS_ok.one) (keys_bytes aS_ok.two), aB_len]
  unfold size aS fresh
  omega
set_option maxRecDepth 100000 in
theorem aS_apart : leaf aS 2 aB ≠ List.replicate 32 0 := by decide +kernel
theorem aS_put : putData aS beg 0 aB = ((lay aS beg 0 aC).1, ⟨1, leaf aS 1 aC⟩, 0) := by
  unfold putData
  rw [if_neg (by rw [aB_len]; omega)]
  exact put_room (beg_room rfl (by decide)) aC_len _
theorem aS_back : data aS (lay aS beg 0 aC).1 ⟨1, leaf aS 1 aC⟩ = (aB, 0) :=
  data_back aS_ok aB_byte aB_len (raw_lay aS_ok (beg_room rfl (by decide)) aC_len _)
theorem aS_none : data aS (lay aS beg 0 aC).1 ⟨2, List.replicate 32 0⟩ = ([], 40) := by
  have e : raw aS (lay aS beg 0 aC).1 ⟨2, List.replicate 32 0⟩ = (aB, 0) := by
    rw [raw_other (n := 0) (m := 1) (beg_room rfl (by decide)) (beg_room rfl (by decide)) (by decide) aC_len, raw_room (n := 1) (beg_room rfl (by decide)), beg_seen]
    unfold DM.part aB size aS fresh
    rw [List.drop_replicate, List.take_replicate]
    rfl
  unfold data
  rw [e, if_neg (by simp)]
  show (if leaf aS 2 aB ≠ List.replicate 32 0 then (([], 40) : List Nat × Int) else _) = _
  rw [if_pos aS_apart]
end SP
end Go.Proofs.YtflnodkajhokhaaDoor
end

section
namespace Go.Proofs.YtflnodkajhokhaaDoor
open Go.ChangeShapes Go.WideShapes Go.ChangeAt Go.RowKit
open RT XM AM SM
theorem doesL_make {ops : List Oper} {Q : Exit -> Act -> World -> Prop} {o : Oper} {a : Act} {w : World} {f : Last} (hw : Region.wanted o (yielded ops.toArray a.tmps) = true) (n : Nat) (hn : n <= 140737488355328) (ho : o.op = .makeSlice 25 (.const (.int .i64 (n : Int))) (.const (.int .i64 (n : Int)))) (hf : ∀ v' w', Own w' w.heap.size v' (List.replicate n 0) -> f.holds v' w') : DoesL Tryd.prog ops Q o a w f :=
  doesL_wp hw fun K hK => by
    obtain ⟨w', hr, hown, hb⟩ := run_make_bytes w w.heap.size (Nat.le_refl _) n hn
    unfold Oper.wp execOp
    rw [ho]
    simp only [Act.eval, Sem.run_bind, hr, Result.andThen_ok, Sem.run_pure, Oper.upon_value]
    exact hK _ _ (hf _ _ hown) hb
structure Laid (B : Nat) (w : World) (s d : Nat) (p : SP.Sp) (A : Nat -> Prop) (S : DM.DS) : Prop where
  dev : Dev B A w d S
  spa : Spa (fun k => k < B \/ A k) w s d p
  tabs : PTabs (fun k => k < B \/ A k) w
theorem Laid.below {B : Nat} {w w' : World} {s d : Nat} {p : SP.Sp} {A : Nat -> Prop} {S : DM.DS} (h : Laid B w s d p A S) (hb : Below w.heap.size w w') : Laid B w' s d p A S := ⟨h.dev.below hb, h.spa.below hb, h.tabs.below hb⟩
theorem Laid.own {B : Nat} {w w' : World} {s d : Nat} {p : SP.Sp} {A : Nat -> Prop} {S : DM.DS} (h : Laid B w s d p A S) (hb : Below w.heap.size w w') : Laid B w' s d p (fun k => A k \/ (w.heap.size <= k /\ k < w'.heap.size)) S :=
  ⟨h.dev.own hb, (h.spa.below hb).more (fun _ q => q.imp_right .inl), (h.tabs.below hb).more (fun _ q => q.imp_right .inl)⟩
theorem Laid.went {B : Nat} {w w' : World} {s d : Nat} {p : SP.Sp} {A : Nat -> Prop} {S S' : DM.DS} (h : Laid B w s d p A S) (hd : Dev B A w' d S') (hk : Kept B A w w') : Laid B w' s d p A S' := ⟨hd, h.spa.kept hk (fun _ q => q), h.tabs.kept hk (fun _ q => q)⟩
theorem PTabs.start {w : World} (tx : TabX w) (tu : TabU w) (tp : TabP w) : PTabs (fun k => k < w.heap.size) w := ⟨tx, tu, tp, tx.lt, tu.lt, tp.lt⟩
theorem laid_new {B : Nat} {w w' : World} {s d : Nat} {p : SP.Sp} {A : Nat -> Prop} {S : DM.DS} (hd : Dev B A w d S) (ht : PTabs (fun k => k < B) w) (hs : Spa (fun k => w.heap.size <= k /\ k < w'.heap.size) w' s d p) (hb : Below w.heap.size w w') : Laid B w' s d p (fun k => A k \/ (w.heap.size <= k /\ k < w'.heap.size)) S :=
  ⟨hd.own hb, hs.more (fun _ q => .inr (.inr q)), (ht.below hb).more (fun _ q => .inl q)⟩
set_option maxRecDepth 100000 in
set_option maxHeartbeats 4000000 in
theorem spawake_any (w : World) (tx : TabX w) (tu : TabU w) (tp : TabP w) : Calls Tryd.prog 11 #[] w fun e w' => e = .returned (.bool true) /\ Below w.heap.size w w' := by
  have HB := Lib.hid (begun_any w.heap.size w (Nat.le_refl _))
  have HT := Lib.hid (PTabs.start tx tu tp)
  obtain ⟨aB, hAB⟩ : ∃ x, x = SP.aB := ⟨_, rfl⟩
  have HAB := Lib.hid (show aB = List.replicate 512 0 from hAB)
  have HKB := Lib.hid (show Tryd.prog.built 23 [(0, .int .u8 1)] = some (row8 SP.aK).toArray by kernel_rfl)
  obtain ⟨KC, hKC⟩ : ∃ x, x = row8 SP.aK := ⟨_, rfl⟩
  have HNW := Lib.hid (fun W d (tx : TabX W) (tp : TabP W) => (show Calls Tryd.prog 7 #[.pointer (some ⟨d, 0, none⟩), .agg #[.int .i64 8, .int .i64 1], .agg (row8 SP.aK).toArray] W fun e w' => ∃ s, e = .returned (.pointer (some ⟨s, 0, none⟩)) /\ Spa (fun k => W.heap.size <= k /\ k < w'.heap.size) w' s d SP.aS /\ Below W.heap.size W w' from spcnew_ok d 8 1 (by decide) (by decide) SP.aK SP.aK_ok W tx tp))
  rw [<- hKC] at HNW HKB
  have HPU := Lib.hid (fun W s d A v (h : Laid w.heap.size W s d SP.aS A SP.beg) (hv : Rd W v aB) => (show Calls Tryd.prog 10 #[.pointer (some ⟨s, 0, none⟩), .int .u32 0, v] W fun e w' => e = .returned (.tuple #[.agg (pc ⟨1, SP.leaf SP.aS 1 SP.aC⟩).toArray, .int .i64 0]) /\ Dev w.heap.size A w' d (SP.lay SP.aS SP.beg 0 SP.aC).1 /\ Kept w.heap.size A W w' by
    have q := spcputdata_any SP.aS_ok w.heap.size A SP.beg W h.dev SP.beg_tame h.spa h.tabs 0 (by decide) SP.aB v (by rw [<- hAB]; exact hv)
    rw [SP.aS_put] at q
    exact q))
  have hfew : SP.Few (SP.lay SP.aS SP.beg 0 SP.aC).1 1 := SP.Few.beg.lay SP.aS 0 (SP.sealed_byte SP.aS_ok 0 SP.aB) (by rw [SP.aC_len]; exact SP.size_le SP.aS_ok)
  have hok1 : Pok ⟨1, SP.leaf SP.aS 1 SP.aC⟩ := ⟨by decide, mac_bytes _ _⟩
  have hok2 : Pok ⟨2, List.replicate 32 0⟩ := ⟨by decide, bytes_zero 32⟩
  have HD1 := Lib.hid (fun W s d A (h : Laid w.heap.size W s d SP.aS A (SP.lay SP.aS SP.beg 0 SP.aC).1) => (show Calls Tryd.prog 26 #[.pointer (some ⟨s, 0, none⟩), .agg (pc ⟨1, SP.leaf SP.aS 1 SP.aC⟩).toArray] W fun e w' => ∃ y, e = .returned (.tuple #[y, .int .i64 0]) /\ Rd w' y aB /\ Below W.heap.size W w' by
    have q := spcdata_any SP.aS_ok w.heap.size A _ W h.dev (hfew.tame (by decide)) h.spa ⟨1, SP.leaf SP.aS 1 SP.aC⟩ hok1 h.tabs.x h.tabs.u h.tabs.p
    rw [SP.aS_back] at q
    exact q.mono fun e w' hh => by obtain ⟨y, he, hr, _, hb⟩ := hh; exact ⟨y, he, by rw [hAB]; exact hr, hb⟩))
  have HD2 := Lib.hid (fun W s d A (h : Laid w.heap.size W s d SP.aS A (SP.lay SP.aS SP.beg 0 SP.aC).1) => (show Calls Tryd.prog 26 #[.pointer (some ⟨s, 0, none⟩), .agg (pc ⟨2, List.replicate 32 0⟩).toArray] W fun e w' => ∃ y, e = .returned (.tuple #[y, .int .i64 40]) /\ Below W.heap.size W w' by
    have q := spcdata_any SP.aS_ok w.heap.size A _ W h.dev (hfew.tame (by decide)) h.spa ⟨2, List.replicate 32 0⟩ hok2 h.tabs.x h.tabs.u h.tabs.p
    rw [SP.aS_none] at q
    exact q.mono fun e w' hh => by obtain ⟨y, he, _, _, hb⟩ := hh; exact ⟨y, he, hb⟩))
  have HR2 := Lib.hid (show Tryd.prog.built 37 [(0, .int .u32 2)] = some (pc ⟨2, List.replicate 32 0⟩).toArray by kernel_rfl)
  obtain ⟨R2C, hR2⟩ : ∃ x, x = pc ⟨2, List.replicate 32 0⟩ := ⟨_, rfl⟩
  rw [<- hR2] at HR2 HD2
  have RC33 := Lib.hid (pc_len hok1)
  have RC1 := Lib.hid (one_pg ⟨1, SP.leaf SP.aS 1 SP.aC⟩)
  have HC0 := Lib.hid (show (pc ⟨1, SP.leaf SP.aS 1 SP.aC⟩)[0]? = some (.int .u32 1) from rfl)
  obtain ⟨RC, hRC⟩ : ∃ x, x = pc ⟨1, SP.leaf SP.aS 1 SP.aC⟩ := ⟨_, rfl⟩
  rw [<- hRC] at RC33 RC1 HC0 HPU HD1
  obtain ⟨S1, hS1⟩ : ∃ x, x = (SP.lay SP.aS SP.beg 0 SP.aC).1 := ⟨_, rfl⟩
  rw [<- hS1] at HPU HD1 HD2
  obtain ⟨S0, hS0⟩ : ∃ x, x = SP.beg := ⟨_, rfl⟩
  rw [<- hS0] at HB HPU
  obtain ⟨AS, hAS⟩ : ∃ x, x = SP.aS := ⟨_, rfl⟩
  rw [<- hAS] at HNW HPU HD1 HD2
  obtain ⟨RZ, hRZ⟩ : ∃ x, x = pc ND.zp := ⟨_, rfl⟩
  have hz : ∀ w, (zeroValue 37).run Tryd.prog w = .ok (.agg RZ.toArray) w := by rw [hRZ]; exact zeroRfP
  have RZ33 := Lib.hid (show RZ.length = 33 by rw [hRZ]; exact pc_len ND.zp_ok)
  obtain ⟨SB, hSB⟩ : ∃ x, x = bstr aB := ⟨_, rfl⟩
  have HSB := Lib.hid hSB
  clear hAB hKC hfew hok1 hok2 hR2 hRC hS1 hS0 hAS hRZ hSB tx tu tp
  go_enter Tryd.func11, Tryd.ntmps11
  go_upto_region 5 with (first
    | (go_at_call 4; (with_reducible refine HB.out.mono ?_); rintro e w1 ⟨d, rfl, d1, b1⟩; have D1 := Lib.hid d1; have W1 := Lib.hid b1; have T1 := Lib.hid (HT.out.below b1); clear d1 b1)
    | ((with_reducible show wpList _ _ _ (Oper.mk (some 9) (.build _ _) _ _ _ _ :: _) _ _); refine wpList_wanted rfl (.agg #[.int .i64 8, .int .i64 1]) (ex_build rfl (by kernel_rfl)) ?_)
    | ((with_reducible show wpList _ _ _ (Oper.mk (some 10) (.build _ _) _ _ _ _ :: _) _ _); refine wpList_wanted rfl (.agg KC.toArray) (ex_build rfl (by simp only [List.map_toArray, List.map_cons, List.map_nil]; exact HKB.out)) ?_)
    | (go_at_call 7; refine (HNW.out w1 d T1.out.x T1.out.p).mono ?_; rintro e w2 ⟨s, rfl, hs, b2⟩; have L2 := Lib.hid (laid_new D1.out T1.out hs b2); have W2 := Lib.hid (W1.out.on b2); clear hs b2)
    | ((with_reducible show wpList _ _ _ (Oper.mk (some 14) (.makeSlice _ _ _) _ _ _ _ :: _) _ _); refine wpList_make_bytes rfl _ _ rfl w2.heap.size 512 (by decide) rfl rfl (Nat.le_refl _) ?_; intro w3 o3 b3; have O3 := Lib.hid o3; have L3 := Lib.hid (L2.out.below b3); have W3 := Lib.hid (W2.out.on b3); clear o3 b3)
    | (go_at_call 10; refine (HPU.out w3 s d _ _ L3.out (by have q := O3.out.rd; rw [<- HAB.out] at q; exact q)).mono ?_; rintro e w4 ⟨rfl, d4, k4⟩; have L4 := Lib.hid (L3.out.went d4 k4); have W4 := Lib.hid (k4.below W3.out W3.out.size); clear d4 k4)
    | ((with_reducible show wpList _ _ _ (Oper.mk _ (.store _ (.tmp 2) (.tmp 16)) _ _ _ _ :: _) _ _); refine wpList_store_blk rfl 37 (.tmp 2) (.tmp 16) rfl w4.heap.size 0 RC rfl rfl 37 RZ (Blk.new w4 37 RZ _ rfl) (by have := RC33.out; have := RZ33.out; omega) (by rw [RC33.out]; exact infoRfQ) RC1.out ?_; intro w5 b' g'; rw [splice_all _ _ (by rw [RC33.out, RZ33.out])] at b'; have bb := alloc_turn (Below.refl _ _) g'; obtain ⟨rb, hrb⟩ : ∃ x, x = w4.heap.size := ⟨_, rfl⟩; rw [<- hrb] at b' ⊢; have R5a := Lib.hid b'; have L5 := Lib.hid (L4.out.below bb); have W5 := Lib.hid (W4.out.on bb); clear b' g' bb hrb)
    | ((with_reducible show wpList _ _ _ (Oper.mk _ (.load _ (.tmp 2)) _ _ _ _ :: _) _ _); refine wpList_load_mid rfl 37 (.tmp 2) rfl rb 0 rfl RC _ R5a.out.range Tryd.underlying37 rfl (by rw [RC33.out]; exact infoRfQ) ?_)
    | (go_at_call 26; first
      | ((with_reducible refine (HD1.out w5 s d _ L5.out).mono ?_); rintro e w6 ⟨y, rfl, ry, b6⟩; obtain ⟨ya, yc, rfl, _⟩ := ry.shape; have RY6 := Lib.hid ry; have L6 := Lib.hid (L5.out.below b6); have W6 := Lib.hid (W5.out.on b6); have R6 := Lib.hid (R5a.out.below b6 R5a.out.lt); clear ry b6)
      | ((with_reducible refine (HD2.out w6 s d _ L6.out).mono ?_); rintro e w7 ⟨u, rfl, b7⟩; have RY5 := Lib.hid (RY6.out.below b7); have W7 := Lib.hid (W6.out.on b7); have R5 := Lib.hid (R6.out.below b7 R6.out.lt); clear b7))
    | ((with_reducible show wpList _ _ _ (Oper.mk (some 26) (.build _ _) _ _ _ _ :: _) _ _); refine wpList_wanted rfl (.agg R2C.toArray) (ex_build rfl (by simp only [List.map_toArray, List.map_cons, List.map_nil]; exact HR2.out)) ?_))
  clear HPU HD1 HD2 HNW HB L2 L3 L4 L5 L6 R5a R6 RY6
  refine wp_region_l (by kernel_rfl) 32 (by decide) (by kernel_rfl) (by kernel_rfl) (by kernel_rfl) [.val (.pointer (some ⟨s, 0, none⟩)), .val (.bool true), .val (.bool true), .val (.pointer (some ⟨rb, 0, none⟩)), .val (.int .u32 1), .val (.bool true), .val (.bool true), .val (.bool true), .val (.int .i64 0), .val (.bool true), .val (.bool true), .val (.bool true), .val (.int .i64 0), .val (.bool true), .val (.bool true), .val (.bool true), .val (.slice ya aB.length yc), .val (.string SB), ⟨fun v W => Rd W v (aB), fun h k => h.below k⟩, .val (.string SB), .val (.bool true), .val (.bool true), .val (.bool true), .val (.int .i64 40), .val (.bool true), .val (.bool true), .val (.bool true), .val (.bool true), .val (.bool true), .val (.bool true), .val (.bool true), .val (.bool true)] ?_ ?_
  . refine ⟨?_, ?_, ?_, ?_, ?_, ?_, ?_, ?_, ?_, ?_, ?_, ?_, ?_, ?_, ?_, ?_, ?_, ?_, ?_, ?_, ?_, ?_, ?_, ?_, ?_, ?_, ?_, ?_, ?_, ?_, ?_, ?_, trivial⟩
    . intro a w' hF hB hd
      have e1 : a.eval (.tmp 1) = .pointer (some ⟨s, 0, none⟩) := hF 1 (by decide +kernel)
      exact doesL_val rfl (ex_move rfl e1) rfl
    . intro a w' hF hB hd
      have e30 : a.eval (.tmp 30) = .pointer (some ⟨s, 0, none⟩) := hd 0 (by decide +kernel)
      exact doesL_val rfl (ex_binOp rfl e30 rfl (by go_simp) (by go_simp)) rfl
    . intro a w' hF hB hd
      have e31 : a.eval (.tmp 31) = .bool true := hd 1 (by decide +kernel)
      exact doesL_val rfl (ex_move rfl e31) rfl
    . intro a w' hF hB hd
      have e32 : a.eval (.tmp 32) = .bool true := hd 2 (by decide +kernel)
      have e2 : a.eval (.tmp 2) = .pointer (some ⟨rb, 0, none⟩) := hF 2 (by decide +kernel)
      exact doesL_val (wanted_of rfl (yielded_of rfl e32)) (ex_fieldAddr rfl e2 (by go_simp)) rfl
    . intro a w' hF hB hd
      have e32 : a.eval (.tmp 32) = .bool true := hd 2 (by decide +kernel)
      have e33 : a.eval (.tmp 33) = .pointer (some ⟨rb, 0, none⟩) := hd 3 (by decide +kernel)
      have cc := (R5.out.below hB R5.out.lt).cell 0 _ HC0.out
      exact doesL_val (wanted_of rfl (yielded_of rfl e32)) (v := .int .u32 1) (by unfold execOp; simp only [e33]; go_simp) rfl
    . intro a w' hF hB hd
      have e32 : a.eval (.tmp 32) = .bool true := hd 2 (by decide +kernel)
      have e34 : a.eval (.tmp 34) = .int .u32 1 := hd 4 (by decide +kernel)
      exact doesL_val (wanted_of rfl (yielded_of rfl e32)) (ex_binOp rfl e34 rfl (by go_simp) (by go_simp)) rfl
    . intro a w' hF hB hd
      have e32 : a.eval (.tmp 32) = .bool true := hd 2 (by decide +kernel)
      have e35 : a.eval (.tmp 35) = .bool true := hd 5 (by decide +kernel)
      exact doesL_val rfl (ex_pick rfl e32 (by simp [e35])) rfl
    . intro a w' hF hB hd
      have e36 : a.eval (.tmp 36) = .bool true := hd 6 (by decide +kernel)
      exact doesL_val rfl (ex_move rfl e36) rfl
    . intro a w' hF hB hd
      have e37 : a.eval (.tmp 37) = .bool true := hd 7 (by decide +kernel)
      have e3 : a.eval (.tmp 3) = .int .i64 0 := hF 3 (by decide +kernel)
      exact doesL_val (wanted_of rfl (yielded_of rfl e37)) (ex_move rfl e3) rfl
    . intro a w' hF hB hd
      have e37 : a.eval (.tmp 37) = .bool true := hd 7 (by decide +kernel)
      have e38 : a.eval (.tmp 38) = .int .i64 0 := hd 8 (by decide +kernel)
      exact doesL_val (wanted_of rfl (yielded_of rfl e37)) (ex_binOp rfl e38 rfl (by go_simp) (by go_simp)) rfl
    . intro a w' hF hB hd
      have e37 : a.eval (.tmp 37) = .bool true := hd 7 (by decide +kernel)
      have e39 : a.eval (.tmp 39) = .bool true := hd 9 (by decide +kernel)
      exact doesL_val rfl (ex_pick rfl e37 (by simp [e39])) rfl
    . intro a w' hF hB hd
      have e40 : a.eval (.tmp 40) = .bool true := hd 10 (by decide +kernel)
      exact doesL_val rfl (ex_move rfl e40) rfl
    . intro a w' hF hB hd
      have e41 : a.eval (.tmp 41) = .bool true := hd 11 (by decide +kernel)
      have e5 : a.eval (.tmp 5) = .int .i64 0 := hF 5 (by decide +kernel)
      exact doesL_val (wanted_of rfl (yielded_of rfl e41)) (ex_move rfl e5) rfl
    . intro a w' hF hB hd
      have e41 : a.eval (.tmp 41) = .bool true := hd 11 (by decide +kernel)
      have e42 : a.eval (.tmp 42) = .int .i64 0 := hd 12 (by decide +kernel)
      exact doesL_val (wanted_of rfl (yielded_of rfl e41)) (ex_binOp rfl e42 rfl (by go_simp) (by go_simp)) rfl
    . intro a w' hF hB hd
      have e41 : a.eval (.tmp 41) = .bool true := hd 11 (by decide +kernel)
      have e43 : a.eval (.tmp 43) = .bool true := hd 13 (by decide +kernel)
      exact doesL_val rfl (ex_pick rfl e41 (by simp [e43])) rfl
    . intro a w' hF hB hd
      have e44 : a.eval (.tmp 44) = .bool true := hd 14 (by decide +kernel)
      exact doesL_val rfl (ex_move rfl e44) rfl
    . intro a w' hF hB hd
      have e45 : a.eval (.tmp 45) = .bool true := hd 15 (by decide +kernel)
      have e4 : a.eval (.tmp 4) = .slice ya aB.length yc := hF 4 (by decide +kernel)
      exact doesL_val (wanted_of rfl (yielded_of rfl e45)) (ex_move rfl e4) rfl
    . intro a w' hF hB hd
      have e45 : a.eval (.tmp 45) = .bool true := hd 15 (by decide +kernel)
      have e46 : a.eval (.tmp 46) = .slice ya aB.length yc := hd 16 (by decide +kernel)
      exact doesL_val (wanted_of rfl (yielded_of rfl e45)) (ex_convert (x := .tmp 46) rfl e46 (by rw [HSB.out]; exact (RY5.out.below hB).str)) rfl
    . intro a w' hF hB hd
      have e45 : a.eval (.tmp 45) = .bool true := hd 15 (by decide +kernel)
      exact doesL_make (wanted_of rfl (yielded_of rfl e45)) 512 (by decide) rfl (fun v' w2 ho => by have q := ho.rd; rw [<- HAB.out] at q; exact q)
    . intro a w' hF hB hd
      have e45 : a.eval (.tmp 45) = .bool true := hd 15 (by decide +kernel)
      have e48 : Rd w' (a.eval (.tmp 48)) (aB) := hd 18 (by decide +kernel)
      exact doesL_val (wanted_of rfl (yielded_of rfl e45)) (ex_convert (x := .tmp 48) rfl rfl (by rw [HSB.out]; exact (e48).str)) rfl
    . intro a w' hF hB hd
      have e45 : a.eval (.tmp 45) = .bool true := hd 15 (by decide +kernel)
      have e47 : a.eval (.tmp 47) = .string SB := hd 17 (by decide +kernel)
      have e49 : a.eval (.tmp 49) = .string SB := hd 19 (by decide +kernel)
      exact doesL_val (wanted_of rfl (yielded_of rfl e45)) (ex_binOp rfl e47 e49 (by go_simp) (by go_simp)) rfl
    . intro a w' hF hB hd
      have e45 : a.eval (.tmp 45) = .bool true := hd 15 (by decide +kernel)
      have e50 : a.eval (.tmp 50) = .bool true := hd 20 (by decide +kernel)
      exact doesL_val rfl (ex_pick rfl e45 (by simp [e50])) rfl
    . intro a w' hF hB hd
      have e51 : a.eval (.tmp 51) = .bool true := hd 21 (by decide +kernel)
      exact doesL_val rfl (ex_move rfl e51) rfl
    . intro a w' hF hB hd
      have e52 : a.eval (.tmp 52) = .bool true := hd 22 (by decide +kernel)
      have e7 : a.eval (.tmp 7) = .int .i64 40 := hF 7 (by decide +kernel)
      exact doesL_val (wanted_of rfl (yielded_of rfl e52)) (ex_move rfl e7) rfl
    . intro a w' hF hB hd
      have e52 : a.eval (.tmp 52) = .bool true := hd 22 (by decide +kernel)
      have e53 : a.eval (.tmp 53) = .int .i64 40 := hd 23 (by decide +kernel)
      exact doesL_val (wanted_of rfl (yielded_of rfl e52)) (ex_binOp rfl e53 rfl (by go_simp) (by go_simp)) rfl
    . intro a w' hF hB hd
      have e52 : a.eval (.tmp 52) = .bool true := hd 22 (by decide +kernel)
      have e54 : a.eval (.tmp 54) = .bool true := hd 24 (by decide +kernel)
      exact doesL_val rfl (ex_pick rfl e52 (by simp [e54])) rfl
    . intro a w' hF hB hd
      have e55 : a.eval (.tmp 55) = .bool true := hd 25 (by decide +kernel)
      exact doesL_val rfl (ex_move rfl e55) rfl
    . intro a w' hF hB hd
      have e56 : a.eval (.tmp 56) = .bool true := hd 26 (by decide +kernel)
      exact doesL_val rfl (ex_pick rfl e56 (rfl)) rfl
    . intro a w' hF hB hd
      have e57 : a.eval (.tmp 57) = .bool true := hd 27 (by decide +kernel)
      exact doesL_val rfl (ex_move rfl e57) rfl
    . intro a w' hF hB hd
      have e58 : a.eval (.tmp 58) = .bool true := hd 28 (by decide +kernel)
      exact doesL_val rfl (ex_pick rfl e58 (rfl)) rfl
    . intro a w' hF hB hd
      have e59 : a.eval (.tmp 59) = .bool true := hd 29 (by decide +kernel)
      exact doesL_val rfl (ex_move rfl e59) rfl
    . intro a w' hF hB hd
      have e60 : a.eval (.tmp 60) = .bool true := hd 30 (by decide +kernel)
      exact doesL_val rfl (ex_pick rfl e60 (rfl)) rfl
  . intro vs w9 hB hv
    have e61 : vs 31 = .bool true := hv 31 (by decide)
    simp only [List.take_succ_cons, List.take_zero, List.drop_succ_cons, List.drop_zero, putOps, Act.put, List.setIfInBounds_toArray, List.set_cons_zero, List.set_cons_succ, e61]
    have W9 := Lib.hid (W7.out.on hB)
    clear hv e61 hB
    generalize vs 0 = z0
    generalize vs 1 = z1
    generalize vs 2 = z2
    generalize vs 3 = z3
    generalize vs 4 = z4
    generalize vs 5 = z5
    generalize vs 6 = z6
    generalize vs 7 = z7
    generalize vs 8 = z8
    generalize vs 9 = z9
    generalize vs 10 = z10
    generalize vs 11 = z11
    generalize vs 12 = z12
    generalize vs 13 = z13
    generalize vs 14 = z14
    generalize vs 15 = z15
    generalize vs 16 = z16
    generalize vs 17 = z17
    generalize vs 18 = z18
    generalize vs 19 = z19
    generalize vs 20 = z20
    generalize vs 21 = z21
    generalize vs 22 = z22
    generalize vs 23 = z23
    generalize vs 24 = z24
    generalize vs 25 = z25
    generalize vs 26 = z26
    generalize vs 27 = z27
    generalize vs 28 = z28
    generalize vs 29 = z29
    generalize vs 30 = z30
    go_wp2_with fail
    go_ret
    exact ⟨rfl, W9.out⟩
end Go.Proofs.YtflnodkajhokhaaDoor
end
