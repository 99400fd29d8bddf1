/- Texts of 9 subjects in one file: SpLA, LaidX, DoorWrap, DoorSpace, RowOpen, NdArg, RefArg, GeoArg, SpLB. Own work. -/
import Derived.Test.YthmkpekeghcifaaGreatDoorMg13
import Derived.Test.YthmkpekeghcifaaGreatDoorMg2
import Derived.Test.YthmkpekeghcifaaGreatDoorMg0
import Derived.Test.YthmkpekeghcifaaGreatDoorRows
import Derived.LaidLaws
import Derived.LaidHandle
import Derived.Lay
import Derived.Test.YthmkpekeghcifaaGreatDoorMg4
import Derived.Test.YthmkpekeghcifaaGreatDoorMg6
import Derived.ProofKit
import Derived.LaidMore
import Derived.OpenShut
import Derived.Stop.Joined
import Derived.Lib.LaidTab
import Derived.LaidSub
import Derived.Test.YthmkpekeghcifaaGreatDoorMg7
import Derived.Deep.Slices
import Derived.ChangeSame
section
/- Law 16's awake, and what the laws' spaces are made of: contracts. Written by gen_spl.py. Own work. -/
namespace Go.Proofs.YthmkpekeghcifaaGreatDoor
open Go.ChangeShapes Go.WideShapes Go.ChangeAt Go.RowKit
open RT XM AM SM
theorem doesL_make {ops : List Oper} {Q : Exit → Act → World → Prop} {o : Oper} {a : Act} {w : World} {f : Last} (hw : Region.wanted o (yielded ops.toArray a.tmps) = true) (n : Nat) (hn : n ≤ 140737488355328) (ho : o.op = .makeSlice 46 (.const (.int .i64 (n : Int))) (.const (.int .i64 (n : Int)))) (hf : ∀ v' w', Own w' w.heap.size v' (List.replicate n 0) → f.holds v' w') : DoesL Tryz.prog ops Q o a w f :=
  doesL_wp hw fun K hK => by
    obtain ⟨w', hr, hown, hb⟩ := run_make_bytes w w.heap.size (Nat.le_refl _) n hn
    unfold Oper.wp execOp
    rw [ho]
    simp only [Act.eval, Sem.run_bind, hr, Result.andThen_ok, Sem.run_pure, Oper.upon_value]
    exact hK _ _ (hf _ _ hown) hb
/-- All that a law holds of a device and a space upon it. -/
structure Laid (B : Nat) (w : World) (s d : Nat) (p : SP.Sp) (A : Nat → Prop) (S : DM.DS) : Prop where
  dev : Dev B A w d S
  spa : Spa (fun k => k < B ∨ A k) w s d p
  tabs : PTabs (fun k => k < B ∨ A k) w
theorem Laid.below {B : Nat} {w w' : World} {s d : Nat} {p : SP.Sp} {A : Nat → Prop} {S : DM.DS} (h : Laid B w s d p A S) (hb : Below w.heap.size w w') : Laid B w' s d p A S := ⟨h.dev.below hb, h.spa.below hb, h.tabs.below hb⟩
/-- What is made of new is none of theirs. -/
theorem Laid.own {B : Nat} {w w' : World} {s d : Nat} {p : SP.Sp} {A : Nat → Prop} {S : DM.DS} (h : Laid B w s d p A S) (hb : Below w.heap.size w w') : Laid B w' s d p (fun k => A k ∨ (w.heap.size ≤ k ∧ k < w'.heap.size)) S :=
  ⟨h.dev.own hb, (h.spa.below hb).more (fun _ q => q.imp_right .inl), (h.tabs.below hb).more (fun _ q => q.imp_right .inl)⟩
theorem Laid.went {B : Nat} {w w' : World} {s d : Nat} {p : SP.Sp} {A : Nat → Prop} {S S' : DM.DS} (h : Laid B w s d p A S) (hd : Dev B A w' d S') (hk : Kept B A w w') : Laid B w' s d p A S' := ⟨hd, h.spa.kept hk (fun _ q => q), h.tabs.kept hk (fun _ q => q)⟩
/-- The tables as a law's world has them. -/
theorem PTabs.start {w : World} (tx : TabX w) (tu : TabU w) (tp : TabP w) : PTabs (fun k => k < w.heap.size) w := ⟨tx, tu, tp, tx.lt, tu.lt, tp.lt⟩
/-- A space is made upon a device that was begun. -/
theorem laid_new {B : Nat} {w w' : World} {s d : Nat} {p : SP.Sp} {A : Nat → Prop} {S : DM.DS} (hd : Dev B A w d S) (ht : PTabs (fun k => k < B) w) (hs : Spa (fun k => w.heap.size ≤ k ∧ k < w'.heap.size) w' s d p) (hb : Below w.heap.size w w') : Laid B w' s d p (fun k => A k ∨ (w.heap.size ≤ k ∧ k < w'.heap.size)) S :=
  ⟨hd.own hb, hs.more (fun _ q => .inr (.inr q)), (ht.below hb).more (fun _ q => .inl q)⟩
set_option maxRecDepth 100000 in
set_option maxHeartbeats 4000000 in
theorem spawake_any (w : World) (tx : TabX w) (tu : TabU w) (tp : TabP w) : Calls Tryz.prog 8 #[] w fun e w' => e = .returned (.bool true) ∧ Below w.heap.size w w' := by
  have HB := Lib.hid (begun_any w.heap.size w (Nat.le_refl _))
  have HT := Lib.hid (PTabs.start tx tu tp)
  obtain ⟨aB, hAB⟩ : ∃ x, x = SP.aB := ⟨_, rfl⟩
  have HAB := Lib.hid (show aB = List.replicate 512 0 from hAB)
  have HKB := Lib.hid (show Tryz.prog.built 23 [(0, .int .u8 1)] = some (row8 SP.aK).toArray by kernel_rfl)
  obtain ⟨KC, hKC⟩ : ∃ x, x = row8 SP.aK := ⟨_, rfl⟩
  have HNW := Lib.hid (fun W d (tx : TabX W) (tp : TabP W) => (show Calls Tryz.prog 12 #[.pointer (some ⟨d, 0, none⟩), .agg #[.int .i64 8, .int .i64 1], .agg (row8 SP.aK).toArray] W fun e w' => ∃ s, e = .returned (.pointer (some ⟨s, 0, none⟩)) ∧ Spa (fun k => W.heap.size ≤ k ∧ k < w'.heap.size) w' s d SP.aS ∧ Below W.heap.size W w' from spcnew_ok d 8 1 (by decide) (by decide) SP.aK SP.aK_ok W tx tp))
  rw [← hKC] at HNW HKB
  have HPU := Lib.hid (fun W s d A v (h : Laid w.heap.size W s d SP.aS A SP.beg) (hv : Rd W v aB) => (show Calls Tryz.prog 17 #[.pointer (some ⟨s, 0, none⟩), .int .u32 0, v] W fun e w' => e = .returned (.tuple #[.agg (pc ⟨1, SP.leaf SP.aS 1 SP.aC⟩).toArray, .int .i64 0]) ∧ Dev w.heap.size A w' d (SP.lay SP.aS SP.beg 0 SP.aC).1 ∧ Kept w.heap.size A W w' by
    have q := spcputdata_any SP.aS_ok w.heap.size A SP.beg W h.dev SP.beg_tame h.spa h.tabs 0 (by decide) SP.aB v (by rw [← hAB]; exact hv)
    rw [SP.aS_put] at q
    exact q))
  have hfew : SP.Few (SP.lay SP.aS SP.beg 0 SP.aC).1 1 := SP.Few.beg.lay SP.aS 0 (SP.sealed_byte SP.aS_ok 0 SP.aB) (by rw [SP.aC_len]; exact SP.size_le SP.aS_ok)
  have hok1 : Pok ⟨1, SP.leaf SP.aS 1 SP.aC⟩ := ⟨by decide, mac_bytes _ _⟩
  have hok2 : Pok ⟨2, List.replicate 32 0⟩ := ⟨by decide, bytes_zero 32⟩
  have HD1 := Lib.hid (fun W s d A (h : Laid w.heap.size W s d SP.aS A (SP.lay SP.aS SP.beg 0 SP.aC).1) => (show Calls Tryz.prog 14 #[.pointer (some ⟨s, 0, none⟩), .agg (pc ⟨1, SP.leaf SP.aS 1 SP.aC⟩).toArray] W fun e w' => ∃ y, e = .returned (.tuple #[y, .int .i64 0]) ∧ Rd w' y aB ∧ Below W.heap.size W w' by
    have q := spcdata_any SP.aS_ok w.heap.size A _ W h.dev (hfew.tame (by decide)) h.spa ⟨1, SP.leaf SP.aS 1 SP.aC⟩ hok1 h.tabs.x h.tabs.u h.tabs.p
    rw [SP.aS_back] at q
    exact q.mono fun e w' hh => by obtain ⟨y, he, hr, _, hb⟩ := hh; exact ⟨y, he, by rw [hAB]; exact hr, hb⟩))
  have HD2 := Lib.hid (fun W s d A (h : Laid w.heap.size W s d SP.aS A (SP.lay SP.aS SP.beg 0 SP.aC).1) => (show Calls Tryz.prog 14 #[.pointer (some ⟨s, 0, none⟩), .agg (pc ⟨2, List.replicate 32 0⟩).toArray] W fun e w' => ∃ y, e = .returned (.tuple #[y, .int .i64 40]) ∧ Below W.heap.size W w' by
    have q := spcdata_any SP.aS_ok w.heap.size A _ W h.dev (hfew.tame (by decide)) h.spa ⟨2, List.replicate 32 0⟩ hok2 h.tabs.x h.tabs.u h.tabs.p
    rw [SP.aS_none] at q
    exact q.mono fun e w' hh => by obtain ⟨y, he, _, _, hb⟩ := hh; exact ⟨y, he, hb⟩))
  have HR2 := Lib.hid (show Tryz.prog.built 49 [(0, .int .u32 2)] = some (pc ⟨2, List.replicate 32 0⟩).toArray by kernel_rfl)
  obtain ⟨R2C, hR2⟩ : ∃ x, x = pc ⟨2, List.replicate 32 0⟩ := ⟨_, rfl⟩
  rw [← hR2] at HR2 HD2
  have RC33 := Lib.hid (pc_len hok1)
  have RC1 := Lib.hid (one_pg ⟨1, SP.leaf SP.aS 1 SP.aC⟩)
  have HC0 := Lib.hid (show (pc ⟨1, SP.leaf SP.aS 1 SP.aC⟩)[0]? = some (.int .u32 1) from rfl)
  obtain ⟨RC, hRC⟩ : ∃ x, x = pc ⟨1, SP.leaf SP.aS 1 SP.aC⟩ := ⟨_, rfl⟩
  rw [← hRC] at RC33 RC1 HC0 HPU HD1
  obtain ⟨S1, hS1⟩ : ∃ x, x = (SP.lay SP.aS SP.beg 0 SP.aC).1 := ⟨_, rfl⟩
  rw [← hS1] at HPU HD1 HD2
  obtain ⟨S0, hS0⟩ : ∃ x, x = SP.beg := ⟨_, rfl⟩
  rw [← hS0] at HB HPU
  obtain ⟨AS, hAS⟩ : ∃ x, x = SP.aS := ⟨_, rfl⟩
  rw [← hAS] at HNW HPU HD1 HD2
  obtain ⟨RZ, hRZ⟩ : ∃ x, x = pc ND.zp := ⟨_, rfl⟩
  have hz : ∀ w, (zeroValue 49).run Tryz.prog w = .ok (.agg RZ.toArray) w := by rw [hRZ]; exact zeroRfP
  have RZ33 := Lib.hid (show RZ.length = 33 by rw [hRZ]; exact pc_len ND.zp_ok)
  obtain ⟨SB, hSB⟩ : ∃ x, x = bstr aB := ⟨_, rfl⟩
  have HSB := Lib.hid hSB
  clear hAB hKC hfew hok1 hok2 hR2 hRC hS1 hS0 hAS hRZ hSB tx tu tp
  go_enter Tryz.func8, Tryz.ntmps8
  go_upto_region 5 with (first
    | (go_at_call 13; (with_reducible refine HB.out.mono ?_); rintro e w1 ⟨d, rfl, d1, b1⟩; have D1 := Lib.hid d1; have W1 := Lib.hid b1; have T1 := Lib.hid (HT.out.below b1); clear d1 b1)
    | ((with_reducible show wpList _ _ _ (Oper.mk (some 9) (.build _ _) _ _ _ _ :: _) _ _); refine wpList_wanted rfl (.agg #[.int .i64 8, .int .i64 1]) (ex_build rfl (by kernel_rfl)) ?_)
    | ((with_reducible show wpList _ _ _ (Oper.mk (some 10) (.build _ _) _ _ _ _ :: _) _ _); refine wpList_wanted rfl (.agg KC.toArray) (ex_build rfl (by simp only [List.map_toArray, List.map_cons, List.map_nil]; exact HKB.out)) ?_)
    | (go_at_call 12; refine (HNW.out w1 d T1.out.x T1.out.p).mono ?_; rintro e w2 ⟨s, rfl, hs, b2⟩; have L2 := Lib.hid (laid_new D1.out T1.out hs b2); have W2 := Lib.hid (W1.out.on b2); clear hs b2)
    | ((with_reducible show wpList _ _ _ (Oper.mk (some 14) (.makeSlice _ _ _) _ _ _ _ :: _) _ _); refine wpList_make_bytes rfl _ _ rfl w2.heap.size 512 (by decide) rfl rfl (Nat.le_refl _) ?_; intro w3 o3 b3; have O3 := Lib.hid o3; have L3 := Lib.hid (L2.out.below b3); have W3 := Lib.hid (W2.out.on b3); clear o3 b3)
    | (go_at_call 17; refine (HPU.out w3 s d _ _ L3.out (by have q := O3.out.rd; rw [← HAB.out] at q; exact q)).mono ?_; rintro e w4 ⟨rfl, d4, k4⟩; have L4 := Lib.hid (L3.out.went d4 k4); have W4 := Lib.hid (k4.below W3.out W3.out.size); clear d4 k4)
    | ((with_reducible show wpList _ _ _ (Oper.mk _ (.store _ (.tmp 2) (.tmp 16)) _ _ _ _ :: _) _ _); refine wpList_store_blk rfl 49 (.tmp 2) (.tmp 16) rfl w4.heap.size 0 RC rfl rfl 49 RZ (Blk.new w4 49 RZ _ rfl) (by have := RC33.out; have := RZ33.out; omega) (by rw [RC33.out]; exact infoRfQ) RC1.out ?_; intro w5 b' g'; rw [splice_all _ _ (by rw [RC33.out, RZ33.out])] at b'; have bb := alloc_turn (Below.refl _ _) g'; obtain ⟨rb, hrb⟩ : ∃ x, x = w4.heap.size := ⟨_, rfl⟩; rw [← hrb] at b' ⊢; have R5a := Lib.hid b'; have L5 := Lib.hid (L4.out.below bb); have W5 := Lib.hid (W4.out.on bb); clear b' g' bb hrb)
    | ((with_reducible show wpList _ _ _ (Oper.mk _ (.load _ (.tmp 2)) _ _ _ _ :: _) _ _); refine wpList_load_mid rfl 49 (.tmp 2) rfl rb 0 rfl RC _ R5a.out.range Tryz.underlying49 rfl (by rw [RC33.out]; exact infoRfQ) ?_)
    | (go_at_call 14; first
      | ((with_reducible refine (HD1.out w5 s d _ L5.out).mono ?_); rintro e w6 ⟨y, rfl, ry, b6⟩; obtain ⟨ya, yc, rfl, _⟩ := ry.shape; have RY6 := Lib.hid ry; have L6 := Lib.hid (L5.out.below b6); have W6 := Lib.hid (W5.out.on b6); have R6 := Lib.hid (R5a.out.below b6 R5a.out.lt); clear ry b6)
      | ((with_reducible refine (HD2.out w6 s d _ L6.out).mono ?_); rintro e w7 ⟨u, rfl, b7⟩; have RY5 := Lib.hid (RY6.out.below b7); have W7 := Lib.hid (W6.out.on b7); have R5 := Lib.hid (R6.out.below b7 R6.out.lt); clear b7))
    | ((with_reducible show wpList _ _ _ (Oper.mk (some 26) (.build _ _) _ _ _ _ :: _) _ _); refine wpList_wanted rfl (.agg R2C.toArray) (ex_build rfl (by simp only [List.map_toArray, List.map_cons, List.map_nil]; exact HR2.out)) ?_))
  clear HPU HD1 HD2 HNW HB L2 L3 L4 L5 L6 R5a R6 RY6
  refine wp_region_l (by kernel_rfl) 32 (by decide) (by kernel_rfl) (by kernel_rfl) (by kernel_rfl) [.val (.pointer (some ⟨s, 0, none⟩)), .val (.bool true), .val (.bool true), .val (.pointer (some ⟨rb, 0, none⟩)), .val (.int .u32 1), .val (.bool true), .val (.bool true), .val (.bool true), .val (.int .i64 0), .val (.bool true), .val (.bool true), .val (.bool true), .val (.int .i64 0), .val (.bool true), .val (.bool true), .val (.bool true), .val (.slice ya aB.length yc), .val (.string SB), ⟨fun v W => Rd W v (aB), fun h k => h.below k⟩, .val (.string SB), .val (.bool true), .val (.bool true), .val (.bool true), .val (.int .i64 40), .val (.bool true), .val (.bool true), .val (.bool true), .val (.bool true), .val (.bool true), .val (.bool true), .val (.bool true), .val (.bool true)] ?_ ?_
  · refine ⟨?_, ?_, ?_, ?_, ?_, ?_, ?_, ?_, ?_, ?_, ?_, ?_, ?_, ?_, ?_, ?_, ?_, ?_, ?_, ?_, ?_, ?_, ?_, ?_, ?_, ?_, ?_, ?_, ?_, ?_, ?_, ?_, trivial⟩
    · intro a w' hF hB hd
      have e1 : a.eval (.tmp 1) = .pointer (some ⟨s, 0, none⟩) := hF 1 (by decide +kernel)
      exact doesL_val rfl (ex_move rfl e1) rfl
    · intro a w' hF hB hd
      have e30 : a.eval (.tmp 30) = .pointer (some ⟨s, 0, none⟩) := hd 0 (by decide +kernel)
      exact doesL_val rfl (ex_binOp rfl e30 rfl (by go_simp) (by go_simp)) rfl
    · intro a w' hF hB hd
      have e31 : a.eval (.tmp 31) = .bool true := hd 1 (by decide +kernel)
      exact doesL_val rfl (ex_move rfl e31) rfl
    · intro a w' hF hB hd
      have e32 : a.eval (.tmp 32) = .bool true := hd 2 (by decide +kernel)
      have e2 : a.eval (.tmp 2) = .pointer (some ⟨rb, 0, none⟩) := hF 2 (by decide +kernel)
      exact doesL_val (wanted_of rfl (yielded_of rfl e32)) (ex_fieldAddr rfl e2 (by go_simp)) rfl
    · intro a w' hF hB hd
      have e32 : a.eval (.tmp 32) = .bool true := hd 2 (by decide +kernel)
      have e33 : a.eval (.tmp 33) = .pointer (some ⟨rb, 0, none⟩) := hd 3 (by decide +kernel)
      have cc := (R5.out.below hB R5.out.lt).cell 0 _ HC0.out
      exact doesL_val (wanted_of rfl (yielded_of rfl e32)) (v := .int .u32 1) (by unfold execOp; simp only [e33]; go_simp) rfl
    · intro a w' hF hB hd
      have e32 : a.eval (.tmp 32) = .bool true := hd 2 (by decide +kernel)
      have e34 : a.eval (.tmp 34) = .int .u32 1 := hd 4 (by decide +kernel)
      exact doesL_val (wanted_of rfl (yielded_of rfl e32)) (ex_binOp rfl e34 rfl (by go_simp) (by go_simp)) rfl
    · intro a w' hF hB hd
      have e32 : a.eval (.tmp 32) = .bool true := hd 2 (by decide +kernel)
      have e35 : a.eval (.tmp 35) = .bool true := hd 5 (by decide +kernel)
      exact doesL_val rfl (ex_pick rfl e32 (by simp [e35])) rfl
    · intro a w' hF hB hd
      have e36 : a.eval (.tmp 36) = .bool true := hd 6 (by decide +kernel)
      exact doesL_val rfl (ex_move rfl e36) rfl
    · intro a w' hF hB hd
      have e37 : a.eval (.tmp 37) = .bool true := hd 7 (by decide +kernel)
      have e3 : a.eval (.tmp 3) = .int .i64 0 := hF 3 (by decide +kernel)
      exact doesL_val (wanted_of rfl (yielded_of rfl e37)) (ex_move rfl e3) rfl
    · intro a w' hF hB hd
      have e37 : a.eval (.tmp 37) = .bool true := hd 7 (by decide +kernel)
      have e38 : a.eval (.tmp 38) = .int .i64 0 := hd 8 (by decide +kernel)
      exact doesL_val (wanted_of rfl (yielded_of rfl e37)) (ex_binOp rfl e38 rfl (by go_simp) (by go_simp)) rfl
    · intro a w' hF hB hd
      have e37 : a.eval (.tmp 37) = .bool true := hd 7 (by decide +kernel)
      have e39 : a.eval (.tmp 39) = .bool true := hd 9 (by decide +kernel)
      exact doesL_val rfl (ex_pick rfl e37 (by simp [e39])) rfl
    · intro a w' hF hB hd
      have e40 : a.eval (.tmp 40) = .bool true := hd 10 (by decide +kernel)
      exact doesL_val rfl (ex_move rfl e40) rfl
    · intro a w' hF hB hd
      have e41 : a.eval (.tmp 41) = .bool true := hd 11 (by decide +kernel)
      have e5 : a.eval (.tmp 5) = .int .i64 0 := hF 5 (by decide +kernel)
      exact doesL_val (wanted_of rfl (yielded_of rfl e41)) (ex_move rfl e5) rfl
    · intro a w' hF hB hd
      have e41 : a.eval (.tmp 41) = .bool true := hd 11 (by decide +kernel)
      have e42 : a.eval (.tmp 42) = .int .i64 0 := hd 12 (by decide +kernel)
      exact doesL_val (wanted_of rfl (yielded_of rfl e41)) (ex_binOp rfl e42 rfl (by go_simp) (by go_simp)) rfl
    · intro a w' hF hB hd
      have e41 : a.eval (.tmp 41) = .bool true := hd 11 (by decide +kernel)
      have e43 : a.eval (.tmp 43) = .bool true := hd 13 (by decide +kernel)
      exact doesL_val rfl (ex_pick rfl e41 (by simp [e43])) rfl
    · intro a w' hF hB hd
      have e44 : a.eval (.tmp 44) = .bool true := hd 14 (by decide +kernel)
      exact doesL_val rfl (ex_move rfl e44) rfl
    · intro a w' hF hB hd
      have e45 : a.eval (.tmp 45) = .bool true := hd 15 (by decide +kernel)
      have e4 : a.eval (.tmp 4) = .slice ya aB.length yc := hF 4 (by decide +kernel)
      exact doesL_val (wanted_of rfl (yielded_of rfl e45)) (ex_move rfl e4) rfl
    · intro a w' hF hB hd
      have e45 : a.eval (.tmp 45) = .bool true := hd 15 (by decide +kernel)
      have e46 : a.eval (.tmp 46) = .slice ya aB.length yc := hd 16 (by decide +kernel)
      exact doesL_val (wanted_of rfl (yielded_of rfl e45)) (ex_convert (x := .tmp 46) rfl e46 (by rw [HSB.out]; exact (RY5.out.below hB).str)) rfl
    · intro a w' hF hB hd
      have e45 : a.eval (.tmp 45) = .bool true := hd 15 (by decide +kernel)
      exact doesL_make (wanted_of rfl (yielded_of rfl e45)) 512 (by decide) rfl (fun v' w2 ho => by have q := ho.rd; rw [← HAB.out] at q; exact q)
    · intro a w' hF hB hd
      have e45 : a.eval (.tmp 45) = .bool true := hd 15 (by decide +kernel)
      have e48 : Rd w' (a.eval (.tmp 48)) (aB) := hd 18 (by decide +kernel)
      exact doesL_val (wanted_of rfl (yielded_of rfl e45)) (ex_convert (x := .tmp 48) rfl rfl (by rw [HSB.out]; exact (e48).str)) rfl
    · intro a w' hF hB hd
      have e45 : a.eval (.tmp 45) = .bool true := hd 15 (by decide +kernel)
      have e47 : a.eval (.tmp 47) = .string SB := hd 17 (by decide +kernel)
      have e49 : a.eval (.tmp 49) = .string SB := hd 19 (by decide +kernel)
      exact doesL_val (wanted_of rfl (yielded_of rfl e45)) (ex_binOp rfl e47 e49 (by go_simp) (by go_simp)) rfl
    · intro a w' hF hB hd
      have e45 : a.eval (.tmp 45) = .bool true := hd 15 (by decide +kernel)
      have e50 : a.eval (.tmp 50) = .bool true := hd 20 (by decide +kernel)
      exact doesL_val rfl (ex_pick rfl e45 (by simp [e50])) rfl
    · intro a w' hF hB hd
      have e51 : a.eval (.tmp 51) = .bool true := hd 21 (by decide +kernel)
      exact doesL_val rfl (ex_move rfl e51) rfl
    · intro a w' hF hB hd
      have e52 : a.eval (.tmp 52) = .bool true := hd 22 (by decide +kernel)
      have e7 : a.eval (.tmp 7) = .int .i64 40 := hF 7 (by decide +kernel)
      exact doesL_val (wanted_of rfl (yielded_of rfl e52)) (ex_move rfl e7) rfl
    · intro a w' hF hB hd
      have e52 : a.eval (.tmp 52) = .bool true := hd 22 (by decide +kernel)
      have e53 : a.eval (.tmp 53) = .int .i64 40 := hd 23 (by decide +kernel)
      exact doesL_val (wanted_of rfl (yielded_of rfl e52)) (ex_binOp rfl e53 rfl (by go_simp) (by go_simp)) rfl
    · intro a w' hF hB hd
      have e52 : a.eval (.tmp 52) = .bool true := hd 22 (by decide +kernel)
      have e54 : a.eval (.tmp 54) = .bool true := hd 24 (by decide +kernel)
      exact doesL_val rfl (ex_pick rfl e52 (by simp [e54])) rfl
    · intro a w' hF hB hd
      have e55 : a.eval (.tmp 55) = .bool true := hd 25 (by decide +kernel)
      exact doesL_val rfl (ex_move rfl e55) rfl
    · intro a w' hF hB hd
      have e56 : a.eval (.tmp 56) = .bool true := hd 26 (by decide +kernel)
      exact doesL_val rfl (ex_pick rfl e56 (rfl)) rfl
    · intro a w' hF hB hd
      have e57 : a.eval (.tmp 57) = .bool true := hd 27 (by decide +kernel)
      exact doesL_val rfl (ex_move rfl e57) rfl
    · intro a w' hF hB hd
      have e58 : a.eval (.tmp 58) = .bool true := hd 28 (by decide +kernel)
      exact doesL_val rfl (ex_pick rfl e58 (rfl)) rfl
    · intro a w' hF hB hd
      have e59 : a.eval (.tmp 59) = .bool true := hd 29 (by decide +kernel)
      exact doesL_val rfl (ex_move rfl e59) rfl
    · intro a w' hF hB hd
      have e60 : a.eval (.tmp 60) = .bool true := hd 30 (by decide +kernel)
      exact doesL_val rfl (ex_pick rfl e60 (rfl)) rfl
  · intro vs w9 hB hv
    have e61 : vs 31 = .bool true := hv 31 (by decide)
    simp only [List.take_succ_cons, List.take_zero, List.drop_succ_cons, List.drop_zero, putOps, Act.put, List.setIfInBounds_toArray, List.set_cons_zero, List.set_cons_succ, e61]
    have W9 := Lib.hid (W7.out.on hB)
    clear hv e61 hB
    generalize vs 0 = z0
    generalize vs 1 = z1
    generalize vs 2 = z2
    generalize vs 3 = z3
    generalize vs 4 = z4
    generalize vs 5 = z5
    generalize vs 6 = z6
    generalize vs 7 = z7
    generalize vs 8 = z8
    generalize vs 9 = z9
    generalize vs 10 = z10
    generalize vs 11 = z11
    generalize vs 12 = z12
    generalize vs 13 = z13
    generalize vs 14 = z14
    generalize vs 15 = z15
    generalize vs 16 = z16
    generalize vs 17 = z17
    generalize vs 18 = z18
    generalize vs 19 = z19
    generalize vs 20 = z20
    generalize vs 21 = z21
    generalize vs 22 = z22
    generalize vs 23 = z23
    generalize vs 24 = z24
    generalize vs 25 = z25
    generalize vs 26 = z26
    generalize vs 27 = z27
    generalize vs 28 = z28
    generalize vs 29 = z29
    generalize vs 30 = z30
    go_wp2_with fail
    go_ret
    exact ⟨rfl, W9.out⟩
end Go.Proofs.YthmkpekeghcifaaGreatDoor
end

section
/- Texts of one subject in one file: LaidTwo, LaidMany. Own work. -/
/- Two long tables listed together meet the door: out of what holds of each alone (the run over both ran the kernel out of memory). Own work over the library's laws. -/
namespace Go.Proofs.YthmkpekeghcifaaGreatDoor

theorem row_nodup (g m : Nat) : (MemPlace.row ⟨g, 0, none⟩ m).Nodup := by
  unfold MemPlace.row
  refine List.Pairwise.map _ (fun a b hab => ?_) List.nodup_range
  intro q
  injection q with _ q
  simp at q
  exact hab q
theorem laidRun_more {P : Program} {w : World} {fuel : Nat} {a : String} {bs : List String} {da : DataW Unit} {ds : List (String × DataW Unit)} {p q : List MemPlace} (h1 : DataW.laidRun P w fuel [a] = some ([(a, da)], p)) (h2 : DataW.laidRun P w fuel bs = some (ds, q)) :
    DataW.laidRun P w fuel (a :: bs) = some ((a, da) :: ds, p ++ q) := by
  rw [DataW.laidRun] at h1 ⊢
  rw [h2]
  cases e1 : P.globalNamed a with
  | none => rw [e1] at h1; simp at h1
  | some g =>
    rw [e1] at h1
    simp only at h1 ⊢
    cases e2 : (P.globals[g]?).map (·.type) with
    | none => rw [e2] at h1; simp at h1
    | some t =>
      cases e3 : w.var? P a with
      | none => rw [e2, e3] at h1; simp at h1
      | some cs =>
        rw [e2, e3] at h1
        simp only [DataW.laidRun] at h1 ⊢
        cases e4 : DataW.trod (fun _ => ()) P w 0 (fun _ => true) false fuel t cs.toList with
        | none => rw [e4] at h1; simp at h1
        | some x =>
          rw [e4] at h1
          simp only [Option.some.injEq, Prod.mk.injEq, List.append_nil, List.cons.injEq] at h1 ⊢
          obtain ⟨⟨⟨_, h3⟩, _⟩, h4⟩ := h1
          exact ⟨⟨⟨trivial, h3⟩, trivial⟩, by rw [h4]⟩
end Go.Proofs.YthmkpekeghcifaaGreatDoor
/- Many long tables listed together meet the door: out of what holds of each alone. Own work over the library's laws. -/
namespace Go.Proofs.YthmkpekeghcifaaGreatDoor
/-- A table: its name, its data, its block, how many cells. -/
abbrev Tabled := (String × DataW Unit) × Nat × Nat
def Tabled.row (x : Tabled) : List MemPlace := MemPlace.row ⟨x.2.1, 0, none⟩ x.2.2
def Tabled.met (P : Program) (w : World) (fuel : Nat) (x : Tabled) : Prop := DataW.laidRun P w fuel [x.1.1] = some ([x.1], x.row) ∧ laidRowsB P w x.row = true
theorem laidRun_many {P : Program} {w : World} {fuel : Nat} : ∀ L : List Tabled, (∀ x ∈ L, x.met P w fuel) → DataW.laidRun P w fuel (L.map (·.1.1)) = some (L.map (·.1), (L.map Tabled.row).flatten)
  | [], _ => rfl
  | x :: L, h => by
    have h1 := (h x (List.mem_cons_self ..)).1
    have h2 := laidRun_many L fun y hy => h y (List.mem_cons_of_mem _ hy)
    exact laidRun_more (da := x.1.2) h1 h2
theorem apart_rows {x y : Tabled} (hne : x.2.1 ≠ y.2.1) : ∀ p ∈ x.row, ∀ q ∈ y.row, p ≠ q := fun p hp q hq e => by
  obtain ⟨i, _, rfl⟩ := MemPlace.mem_row.1 hp
  obtain ⟨j, _, rfl⟩ := MemPlace.mem_row.1 hq
  injection e with e _
  exact hne e
theorem nodup_rows : ∀ L : List Tabled, (L.map (·.2.1)).Nodup → (L.map Tabled.row).flatten.Nodup
  | [], _ => List.nodup_nil
  | x :: L, h => by
    rw [List.map_cons, List.nodup_cons] at h
    rw [List.map_cons, List.flatten_cons]
    refine List.nodup_append.2 ⟨row_nodup _ _, nodup_rows L h.2, fun p hp q hq => ?_⟩
    obtain ⟨r, hr, hqr⟩ := List.mem_flatten.1 hq
    obtain ⟨y, hy, rfl⟩ := List.mem_map.1 hr
    exact apart_rows (x := x) (y := y) (fun e => h.1 (List.mem_map.2 ⟨y, hy, e.symm⟩)) p hp q hqr
theorem rows_many {P : Program} {w : World} {fuel : Nat} : ∀ L : List Tabled, (∀ x ∈ L, x.met P w fuel) → laidRowsB P w (L.map Tabled.row).flatten = true
  | [], _ => rfl
  | x :: L, h => by
    have h1 := (h x (List.mem_cons_self ..)).2
    have h2 := rows_many L fun y hy => h y (List.mem_cons_of_mem _ hy)
    rw [List.map_cons, List.flatten_cons]
    unfold laidRowsB at h1 h2 ⊢
    rw [List.all_append, h1, h2]; rfl
theorem laidMet_many {P : Program} {w : World} {fuel : Nat} (L : List Tabled) (h : ∀ x ∈ L, x.met P w fuel) (hd : (L.map (·.2.1)).Nodup) : laidMet P (L.map (·.1)) w :=
  laidMet_of_run fuel (by rw [List.map_map]; exact laidRun_many L h) (decide_eq_true (nodup_rows L hd)) (rows_many L h)
end Go.Proofs.YthmkpekeghcifaaGreatDoor
end

section
/- Tables that rows list together: what the conditions give, and that the door's own heap meets them. Own work. -/
namespace Go.Proofs.YthmkpekeghcifaaGreatDoor
open Go.ChangeShapes Go.WideShapes Go.ChangeAt Go.RowKit
theorem cells1_uint64 : Tryz.prog.cellsOf 108 = 1 := by kernel_rfl
theorem cells32_uint64 : Tryz.prog.cellsOf 222 = 32 := by kernel_rfl
def laidX : List (String × DataW Unit) := [("reliquary/aes.boxes", Rows.laid_reliquary_aes_boxes)]
theorem gX : Tryz.prog.globalNamed "reliquary/aes.boxes" = some 4 := by kernel_rfl
theorem tX : (Tryz.prog.globals[4]?).map (·.type) = some 222 := by kernel_rfl
theorem laid_tabX : (Rows.laid_reliquary_aes_boxes : DataW Unit) = Lib.tabData .u64 (AM.wtab.map fun n : Nat => (n : Int)) := by kernel_rfl
theorem lenX : AM.wtab.length = 32 := by kernel_rfl
theorem tabX_of_laid {W : World} (h : laidMetH Tryz.prog laidX W) : TabX W := by
  rw [MakeChecks.laidMetH_plain _ _ _ (by kernel_rfl)] at h
  unfold laidX at h
  rw [laid_tabX] at h
  have ht := Lib.tabIs_of_head gX tX Tryz.underlying222 Tryz.underlying108 cells1_uint64 cells32_uint64 h
  intro t htt
  have hc := ht.cell gX t (by rw [List.length_map, lenX]; exact htt)
  rw [hc]
  unfold gb
  rw [List.getD_eq_getElem?_getD, List.getD_eq_getElem?_getD, List.getElem?_map, List.getElem?_eq_getElem (by rw [lenX]; exact htt)]
  rfl
def tabledP : Tabled := (("reliquary/sha.constants", Rows.laid_reliquary_sha_constants), 1, 64)
theorem metP (os : Os) (args : Array Value) : tabledP.met Tryz.prog ((World.doorLaid Tryz.prog 400 os).forCall (fun _ _ => 0) ⟨#[], args, []⟩).memory 8 := ⟨by kernel_rfl, by kernel_rfl⟩
def tabledX : Tabled := (("reliquary/aes.boxes", Rows.laid_reliquary_aes_boxes), 4, 32)
theorem metX (os : Os) (args : Array Value) : tabledX.met Tryz.prog ((World.doorLaid Tryz.prog 400 os).forCall (fun _ _ => 0) ⟨#[], args, []⟩).memory 8 := ⟨by kernel_rfl, by kernel_rfl⟩
end Go.Proofs.YthmkpekeghcifaaGreatDoor
end

section
/- Tables that a space's rows list together: what the conditions give, and that the door's own heap meets them. Written by gen_doorspace.py. Work ahead for stage 16. Own work. -/
namespace Go.Proofs.YthmkpekeghcifaaGreatDoor
open Go.ChangeShapes Go.WideShapes Go.ChangeAt Go.RowKit
def laidU : List (String × DataW Unit) := [("reliquary/aes.unboxes", Rows.laid_reliquary_aes_unboxes)]
theorem gU : Tryz.prog.globalNamed "reliquary/aes.unboxes" = some 3 := by kernel_rfl
theorem tU : (Tryz.prog.globals[3]?).map (·.type) = some 222 := by kernel_rfl
theorem laid_tabU : (Rows.laid_reliquary_aes_unboxes : DataW Unit) = Lib.tabData .u64 (AM.wuntab.map fun n : Nat => (n : Int)) := by kernel_rfl
theorem lenU : AM.wuntab.length = 32 := by kernel_rfl
theorem tabU_of_laid {W : World} (h : laidMetH Tryz.prog laidU W) : TabU W := by
  rw [MakeChecks.laidMetH_plain _ _ _ (by kernel_rfl)] at h
  unfold laidU at h
  rw [laid_tabU] at h
  have ht := Lib.tabIs_of_head gU tU Tryz.underlying222 Tryz.underlying108 cells1_uint64 cells32_uint64 h
  intro t htt
  have hc := ht.cell gU t (by rw [List.length_map, lenU]; exact htt)
  rw [hc]
  unfold gb
  rw [List.getD_eq_getElem?_getD, List.getD_eq_getElem?_getD, List.getElem?_map, List.getElem?_eq_getElem (by rw [lenU]; exact htt)]
  rfl
def tabledU : Tabled := (("reliquary/aes.unboxes", Rows.laid_reliquary_aes_unboxes), 3, 32)
theorem metU (os : Os) (args : Array Value) : tabledU.met Tryz.prog ((World.doorLaid Tryz.prog 400 os).forCall (fun _ _ => 0) ⟨#[], args, []⟩).memory 8 := ⟨by kernel_rfl, by kernel_rfl⟩
def laidXUPs : List (String × DataW Unit) := [("reliquary/aes.boxes", Rows.laid_reliquary_aes_boxes), ("reliquary/aes.unboxes", Rows.laid_reliquary_aes_unboxes), ("reliquary/sha.constants", Rows.laid_reliquary_sha_constants)]
theorem laidXUPs_X : laidXUPs.filter (fun x => x.1 == "reliquary/aes.boxes") = laidX := by
  unfold laidXUPs laidX
  rw [List.filter_cons_of_pos (by decide), List.filter_cons_of_neg (by decide), List.filter_cons_of_neg (by decide)]; rfl
theorem laidXUPs_U : laidXUPs.filter (fun x => x.1 == "reliquary/aes.unboxes") = laidU := by
  unfold laidXUPs laidU
  rw [List.filter_cons_of_neg (by decide), List.filter_cons_of_pos (by decide), List.filter_cons_of_neg (by decide)]; rfl
theorem laidXUPs_P : laidXUPs.filter (fun x => x.1 == "reliquary/sha.constants") = laidP := by
  unfold laidXUPs laidP
  rw [List.filter_cons_of_neg (by decide), List.filter_cons_of_neg (by decide), List.filter_cons_of_pos (by decide)]; rfl
theorem tabsXUPs_of_laid {W : World} (h : laidMetH Tryz.prog laidXUPs W) : TabX W ∧ TabU W ∧ TabP W := by
  have h0 := h.filter (fun x => x.1 == "reliquary/aes.boxes")
  rw [laidXUPs_X] at h0
  have h1 := h.filter (fun x => x.1 == "reliquary/aes.unboxes")
  rw [laidXUPs_U] at h1
  have h2 := h.filter (fun x => x.1 == "reliquary/sha.constants")
  rw [laidXUPs_P] at h2
  exact ⟨tabX_of_laid h0, tabU_of_laid h1, tabP_of_laid h2⟩
theorem doorXUPs_met (os : Os) (args : Array Value) : laidMetH Tryz.prog laidXUPs ((World.doorLaid Tryz.prog 400 os).forCall (fun _ _ => 0) ⟨#[], args, []⟩).memory := by
  rw [MakeChecks.laidMetH_plain _ _ _ (by kernel_rfl)]
  exact laidMet_many (fuel := 8) [tabledX, tabledU, tabledP] (by
    intro x hx
    simp only [List.mem_cons, List.not_mem_nil, or_false] at hx
    rcases hx with rfl | rfl | rfl
    · exact metX os args
    · exact metU os args
    · exact metP os args) (by decide)
end Go.Proofs.YthmkpekeghcifaaGreatDoor
end

section
/- An array of bytes that is a part of an argument: opened. Cut off TabArg in round 15. Own work. -/
namespace Go.Proofs.YthmkpekeghcifaaGreatDoor
open Go.ChangeShapes Go.WideShapes Go.ChangeAt Go.RowKit
theorem row_open {H : Type} {enc : TypeId × Value → H} {P : Program} {W : World} {base fuel : Nat} {sp : Nat → Bool} {held : Bool} {t e n : Nat} (hu : P.underlying t = some (.array n e)) (he : P.underlying e = some (.int .u8)) (hc : P.cellsOf e = 1) (hcn : P.cellsOf t = n)
    {cs : List Value} {x : DataW H × List MemPlace} (hf : DataW.trod enc P W base sp held fuel t cs = some x) : ∃ l : List Nat, Bytes n l ∧ cs = row8 l ∧ x = (lit8 l, []) := by
  obtain ⟨xs, m, _, hx, hl, hn, hi⟩ := DataW.trod_array hu hf
  have key : ∀ i, i < n → ∃ k : Nat, k < 256 ∧ cs[i]? = some (.int .u8 (k : Int)) ∧ xs[i]? = some (.lit (.int .u8 (k : Int)), []) := fun i hin => by
    have h1 := hi i hin
    have e1 : xs[i]? = some (xs[i]'(by omega)) := List.getElem?_eq_getElem (by omega)
    rw [e1, hc, Nat.mul_one] at h1
    obtain ⟨a, h2, h3, h4⟩ := DataW.trod_int he h1
    obtain ⟨k, hk, rfl⟩ := u8_of h4
    refine ⟨k, hk, ?_, by rw [e1, h3]⟩
    have h5 : ((cs.drop i).take 1)[0]? = some (.int .u8 (k : Int)) := by
      rw [h2]; rfl
    simpa using h5
  have hcl : cs.length = n := by rw [← hcn]; exact hl
  let l : List Nat := (List.range n).map fun i => (intOf (cs[i]?.getD undef)).toNat
  have hll : l.length = n := by simp [l]
  have hle : ∀ i, i < n → ∃ k : Nat, k < 256 ∧ l[i]? = some k ∧ cs[i]? = some (.int .u8 (k : Int)) ∧ xs[i]? = some (.lit (.int .u8 (k : Int)), []) := fun i hin => by
    obtain ⟨k, h1, h2, h3⟩ := key i hin
    exact ⟨k, h1, by simp [l, hin, h2, intOf], h2, h3⟩
  refine ⟨l, ⟨hll, fun k => ?_⟩, ?_, ?_⟩
  · unfold gb; rw [List.getD_eq_getElem?_getD]
    by_cases hk : k < n
    · obtain ⟨q, h1, h2, _⟩ := hle k hk; rw [h2]; exact h1
    · rw [List.getElem?_eq_none (by omega)]; show 0 < 256; omega
  · apply List.ext_getElem?
    intro i
    unfold row8; rw [List.getElem?_map]
    by_cases hk : i < n
    · obtain ⟨q, _, h2, h3, _⟩ := hle i hk; rw [h2, h3]; rfl
    · rw [List.getElem?_eq_none (by omega), List.getElem?_eq_none (by omega)]; rfl
  · rw [hx]
    refine Prod.ext ?_ ?_
    · show DataW.agg _ = lit8 l
      unfold lit8; congr 1
      apply List.ext_getElem?
      intro i
      rw [List.getElem?_map, List.getElem?_map]
      by_cases hk : i < n
      · obtain ⟨q, _, h2, _, h4⟩ := hle i hk; rw [h2, h4]; rfl
      · rw [List.getElem?_eq_none (by omega), List.getElem?_eq_none (by omega)]; rfl
    · show List.flatMap _ _ = []
      rw [List.flatMap_eq_nil_iff]
      intro x hxm
      obtain ⟨i, hi2, e3⟩ := List.getElem_of_mem hxm
      obtain ⟨q, _, _, _, h4⟩ := hle i (by omega)
      rw [List.getElem?_eq_getElem hi2, e3] at h4
      cases h4; rfl
end Go.Proofs.YthmkpekeghcifaaGreatDoor
end

section
/- A node by value among a law's arguments: opened. Work ahead for stage 15. Own work. -/
namespace Go.Proofs.YthmkpekeghcifaaGreatDoor
open Go.ChangeShapes Go.WideShapes Go.ChangeAt Go.RowKit
open RT
def litRf {H : Type} : DataW H := .agg [.lit (.int .u32 0), lit8 (List.replicate 32 0)]
theorem cellsRfN : Tryz.prog.cellsOf 49 = 33 := by kernel_rfl
theorem cellsU8N : Tryz.prog.cellsOf 5 = 1 := by kernel_rfl
theorem cellsU32N : Tryz.prog.cellsOf 45 = 1 := by kernel_rfl
theorem cellsSmN : Tryz.prog.cellsOf 47 = 32 := by kernel_rfl
theorem split33N (cs : List Value) (h : cs.length = 33) : cs = cs.take 1 ++ (cs.drop 1).take 32 := by
  rw [List.take_of_length_le (l := cs.drop 1) (by rw [List.length_drop]; omega)]
  exact (List.take_append_drop 1 cs).symm
theorem open_ref {H : Type} {enc : TypeId × Value → H} {W : World} {base fuel : Nat} {cs : List Value} {x : DataW H × List MemPlace}
    (hf : DataW.trod enc Tryz.prog W base (fun _ => true) true fuel 49 cs = some x) : ∃ p : Pg, Pok p ∧ cs = pc p := by
  obtain ⟨xs, k, hk, hxy, hcl, hxl, hfs⟩ := DataW.trod_struct Tryz.underlying49 hf
  rw [cellsRfN] at hcl
  match xs, hxl with
  | [y0, y1], _ =>
    have g0 : DataW.trod enc Tryz.prog W base (fun _ => true) true k 45 ((cs.drop 0).take (Tryz.prog.cellsOf 45)) = some y0 := hfs 0 _ rfl
    have g1 : DataW.trod enc Tryz.prog W base (fun _ => true) true k 47 ((cs.drop 1).take (Tryz.prog.cellsOf 47)) = some y1 := hfs 1 _ rfl
    rw [cellsU32N, List.drop_zero] at g0
    rw [cellsSmN] at g1
    obtain ⟨z0, q0, _, w0⟩ := DataW.trod_int Tryz.underlying45 g0
    obtain ⟨l1, b1, q1, _⟩ := row_open Tryz.underlying47 Tryz.underlying5 cellsU8N cellsSmN g1
    have w0' : 0 ≤ z0 ∧ z0 ≤ 4294967295 := by simpa [Lit.wf, IntKind.min, IntKind.max, IntKind.signed, IntKind.bits] using w0
    obtain ⟨n0, rfl⟩ : ∃ n : Nat, z0 = (n : Int) := ⟨z0.toNat, by omega⟩
    refine ⟨⟨n0, l1⟩, ⟨by show n0 < 4294967296; omega, b1⟩, ?_⟩
    rw [split33N cs hcl, q0, q1]; rfl
end Go.Proofs.YthmkpekeghcifaaGreatDoor
end

section
/- A ref by value among a law's arguments: opened. Work ahead for stage 16. Own work. -/
namespace Go.Proofs.YthmkpekeghcifaaGreatDoor
open Go.ChangeShapes Go.WideShapes Go.ChangeAt Go.RowKit
open RT
set_option maxRecDepth 100000 in
theorem open_refV {H : Type} {enc : TypeId × Value → H} {W : World} {base b0 : Nat} {r : Reach} {v : Value} {d : DataW H} {p : List MemPlace}
    (hval : Value.okWide Tryz.prog W r b0 49 v) (h : DataW.Trod enc Tryz.prog W base (fun _ => true) true 49 v d p) : ∃ q : Pg, Pok q ∧ v = .agg (pc q).toArray := by
  obtain ⟨cs, rfl, _, _⟩ : ∃ cs, v = .agg cs ∧ cs.size = Tryz.prog.cellsOf 49 ∧ Row.okWide Tryz.prog W r b0 49 cs := by
    simpa [Value.okWide, Tryz.underlying49] using hval
  obtain ⟨fuel, hf⟩ := h
  obtain ⟨cs⟩ := cs
  simp only [Value.cells] at hf
  obtain ⟨q, hq, e⟩ := open_ref hf
  exact ⟨q, hq, by rw [e]⟩
end Go.Proofs.YthmkpekeghcifaaGreatDoor
end

section
/- A geometry (a struct of two numbers) by value among a law's arguments: opened and shut. Own work. -/
namespace Go.Proofs.YthmkpekeghcifaaGreatDoor
open Go.ChangeShapes Go.WideShapes Go.ChangeAt Go.RowKit
def litGeo {H : Type} (C P : Int) : DataW H := .agg [.lit (.int .i64 C), .lit (.int .i64 P)]
theorem cellsGI : Tryz.prog.cellsOf 3 = 1 := by kernel_rfl
theorem cellsGG : Tryz.prog.cellsOf 33 = 2 := by kernel_rfl
section
variable {H : Type} {enc : TypeId × Value → H} {W : World} {base : Nat} {sp : Nat → Bool} {held : Bool}
set_option maxRecDepth 100000 in
theorem open_geo {r : Reach} {b0 : Nat} {v : Value} {d : DataW H} {p : List MemPlace} (hval : Value.okWide Tryz.prog W r b0 33 v) (h : DataW.Trod enc Tryz.prog W base sp held 33 v d p) :
    ∃ C P : Int, (Lit.int .i64 C).wf = true ∧ (Lit.int .i64 P).wf = true ∧ v = .agg #[.int .i64 C, .int .i64 P] ∧ d = litGeo C P ∧ p = [] := by
  obtain ⟨cs, rfl, hsz, _⟩ : ∃ cs, v = .agg cs ∧ cs.size = Tryz.prog.cellsOf 33 ∧ Row.okWide Tryz.prog W r b0 33 cs := by
    simpa [Value.okWide, Tryz.underlying33] using hval
  obtain ⟨fuel, hf⟩ := h
  obtain ⟨cs⟩ := cs
  simp only [Value.cells] at hf
  obtain ⟨xs, k, hk, hxy, hcl, hxl, hfs⟩ := DataW.trod_struct Tryz.underlying33 hf
  rw [cellsGG] at hcl
  match xs, hxl with
  | [y0, y1], _ =>
    have g0 : DataW.trod enc Tryz.prog W base sp held k 3 ((cs.drop 0).take (Tryz.prog.cellsOf 3)) = some y0 := hfs 0 _ rfl
    have g1 : DataW.trod enc Tryz.prog W base sp held k 3 ((cs.drop 1).take (Tryz.prog.cellsOf 3)) = some y1 := hfs 1 _ rfl
    rw [cellsGI, List.drop_zero] at g0
    rw [cellsGI] at g1
    obtain ⟨C, q0, rfl, w0⟩ := DataW.trod_int Tryz.underlying3 g0
    obtain ⟨P, q1, rfl, w1⟩ := DataW.trod_int Tryz.underlying3 g1
    have hcs : cs = [.int .i64 C, .int .i64 P] := by
      match cs, hcl with
      | [a, b], _ =>
        simp at q0 q1
        rw [q0, q1]
    refine ⟨C, P, w0, w1, by rw [hcs], ?_, ?_⟩
    · have := congrArg Prod.fst hxy; simpa [litGeo] using this
    · have := congrArg Prod.snd hxy; simpa using this
theorem shut_geo {C P : Int} (hC : (Lit.int .i64 C).wf = true) (hP : (Lit.int .i64 P).wf = true) : DataW.Trod enc Tryz.prog W base sp held 33 (.agg #[.int .i64 C, .int .i64 P]) (litGeo C P) [] := by
  refine ⟨3, ?_⟩
  have g : ∀ x : Int, (Lit.int .i64 x).wf = true → DataW.trod enc Tryz.prog W base sp held 2 3 [.int .i64 x] = some (.lit (.int .i64 x), []) := fun x hx => by
    simp [DataW.trod, Tryz.underlying3, hx]
  have g0 : DataW.trod enc Tryz.prog W base sp held 2 3 ((([Value.int .i64 C, .int .i64 P] : List Value).drop 0).take (Tryz.prog.cellsOf 3)) = some (.lit (.int .i64 C), []) := by rw [cellsGI]; exact g C hC
  have g1 : DataW.trod enc Tryz.prog W base sp held 2 3 ((([Value.int .i64 C, .int .i64 P] : List Value).drop 1).take (Tryz.prog.cellsOf 3)) = some (.lit (.int .i64 P), []) := by rw [cellsGI]; exact g P hP
  have hm := trod_struct_mk (enc := enc) (P := Tryz.prog) (w := W) (base := base) (spare := sp) (held := held) (n := 2) (cs := [.int .i64 C, .int .i64 P]) (xs := [(.lit (.int .i64 C), []), (.lit (.int .i64 P), [])]) Tryz.underlying33 (by rw [cellsGG]; rfl) (by
    simp only [List.mapM_cons, List.mapM_nil, g0, g1]; rfl)
  show DataW.trod enc Tryz.prog W base sp held 3 33 [.int .i64 C, .int .i64 P] = _
  rw [hm]; rfl
end
end Go.Proofs.YthmkpekeghcifaaGreatDoor
end

section
/- The space's calls as a law holds them, over what was laid. Own work. -/
namespace Go.Proofs.YthmkpekeghcifaaGreatDoor
open Go.ChangeShapes Go.WideShapes Go.ChangeAt Go.RowKit
open RT XM AM SM
theorem Rd.kept0 {B : Nat} {A : Nat → Prop} {w w' : World} {v : Value} {l : List Nat} (h : Rd w v l) (k : Kept B A w w') (hne : 0 < l.length → ∀ g, v.ownBlock = some g → g < B ∨ A g) : Rd w' v l := by
  by_cases h0 : 0 < l.length
  · exact h.kept k (hne h0)
  · refine ⟨h.byte, h.fits, ?_⟩
    rcases h.form with q | ⟨ad, cap, e, hc, _⟩
    · exact .inl q
    · exact .inr ⟨ad, cap, e, hc, fun j hj => absurd hj (by omega)⟩
/-- What is made of new is the law's. -/
theorem Laid.own2 {B : Nat} {w w' : World} {s d : Nat} {p : SP.Sp} {A : Nat → Prop} {S : DM.DS} (h : Laid B w s d p A S) (hb : Below w.heap.size w w') : ∃ A', Laid B w' s d p A' S ∧ (∀ k, A k → A' k) ∧ (∀ k, w.heap.size ≤ k → k < w'.heap.size → A' k) :=
  ⟨_, h.own hb, fun _ q => .inl q, fun _ q1 q2 => .inr ⟨q1, q2⟩⟩
section
variable {B : Nat} {w : World} {s d : Nat} {p : SP.Sp} {A : Nat → Prop} {S : DM.DS} {m : Nat}
theorem laid_putdata (hp : SP.Ok p) (h : Laid B w s d p A S) (f : SP.Few S m) (hm : m ≤ 1000) (n : Nat) (hn : n < 4294967296) (b : List Nat) (v : Value) (hv : Rd w v b) : Calls Tryz.prog 17 #[.pointer (some ⟨s, 0, none⟩), .int .u32 (n : Int), v] w fun e w' => e = .returned (.tuple #[.agg (pc (SP.putData p S n b).2.1).toArray, .int .i64 (SP.putData p S n b).2.2]) ∧ Laid B w' s d p A (SP.putData p S n b).1 ∧ Kept B A w w' :=
  (spcputdata_any hp B A S w h.dev (f.tame hm) h.spa h.tabs n hn b v hv).mono fun _ _ hh => ⟨hh.1, h.went hh.2.1 hh.2.2, hh.2.2⟩
theorem laid_putpage (hp : SP.Ok p) (h : Laid B w s d p A S) (f : SP.Few S m) (hm : m ≤ 1000) (n : Nat) (hn : n < 4294967296) (b : List Nat) (v : Value) (hv : Rd w v b) : Calls Tryz.prog 19 #[.pointer (some ⟨s, 0, none⟩), .int .u32 (n : Int), v] w fun e w' => e = .returned (.tuple #[.agg (pc (SP.putPage p S n b).2.1).toArray, .int .i64 (SP.putPage p S n b).2.2]) ∧ Laid B w' s d p A (SP.putPage p S n b).1 ∧ Kept B A w w' :=
  (spcputpage_any hp B A S w h.dev (f.tame hm) h.spa h.tabs n hn b v hv).mono fun _ _ hh => ⟨hh.1, h.went hh.2.1 hh.2.2, hh.2.2⟩
theorem laid_putnode (hp : SP.Ok p) (h : Laid B w s d p A S) (f : SP.Few S m) (hm : m ≤ 1000) (n : Nat) (hn : n < 4294967296) (x : List Pg) (hx : ND.Nok x) : Calls Tryz.prog 18 #[.pointer (some ⟨s, 0, none⟩), .int .u32 (n : Int), .agg (pcs x).toArray] w fun e w' => e = .returned (.tuple #[.agg (pc (SP.putNode p S n x).2.1).toArray, .int .i64 (SP.putNode p S n x).2.2]) ∧ Laid B w' s d p A (SP.putNode p S n x).1 ∧ Kept B A w w' :=
  (spcputnode_any hp B A S w h.dev (f.tame hm) h.spa h.tabs n hn x hx).mono fun _ _ hh => ⟨hh.1, h.went hh.2.1 hh.2.2, hh.2.2⟩
theorem laid_data (hp : SP.Ok p) (h : Laid B w s d p A S) (f : SP.Few S m) (hm : m ≤ 1000) (r : Pg) (hr : Pok r) : Calls Tryz.prog 14 #[.pointer (some ⟨s, 0, none⟩), .agg (pc r).toArray] w fun e w' => ∃ y, e = .returned (.tuple #[y, .int .i64 (SP.data p S r).2]) ∧ Rd w' y (SP.data p S r).1 ∧ NewB w y ∧ Below w.heap.size w w' :=
  spcdata_any hp B A S w h.dev (f.tame hm) h.spa r hr h.tabs.x h.tabs.u h.tabs.p
theorem laid_page (hp : SP.Ok p) (h : Laid B w s d p A S) (f : SP.Few S m) (hm : m ≤ 1000) (r : Pg) (hr : Pok r) : Calls Tryz.prog 16 #[.pointer (some ⟨s, 0, none⟩), .agg (pc r).toArray] w fun e w' => ∃ y, e = .returned (.tuple #[y, .int .i64 (SP.page p S r).2]) ∧ Own w' w.heap.size y (SP.page p S r).1 ∧ Below w.heap.size w w' :=
  spcpage_any hp B A S w h.dev (f.tame hm) h.spa r hr h.tabs.p
theorem laid_node (hp : SP.Ok p) (h : Laid B w s d p A S) (f : SP.Few S m) (hm : m ≤ 1000) (r : Pg) (hr : Pok r) : Calls Tryz.prog 15 #[.pointer (some ⟨s, 0, none⟩), .agg (pc r).toArray] w fun e w' => e = .returned (.tuple #[.agg (pcs (SP.node p S r).1).toArray, .int .i64 (SP.node p S r).2]) ∧ Below w.heap.size w w' :=
  spcnode_any hp B A S w h.dev (f.tame hm) h.spa r hr h.tabs.p
end
/-- A device with room for the clusters that the laws lay. -/
def SP.Roomy (p : SP.Sp) (S : DM.DS) : Prop := ∀ n, n ≤ 23 → SP.Room p S n
theorem SP.Roomy.beg {p : SP.Sp} (h : p.per = 1) : SP.Roomy p SP.beg := fun _ hn => SP.beg_room h hn
theorem SP.Roomy.lay {p : SP.Sp} {S : DM.DS} (h : SP.Roomy p S) {n : Nat} (hn : n ≤ 23) {b : List Nat} (hb : b.length = SP.size p) : SP.Roomy p (SP.lay p S n b).1 := fun m hm => (h n hn).lay (h m hm) hb
theorem SP.putData_room {p : SP.Sp} (hp : SP.Ok p) {S : DM.DS} {n : Nat} (h : SP.Room p S n) (hn : n ≤ 65535) {b : List Nat} (hb : b.length = SP.size p) : SP.putData p S n b = ((SP.lay p S n (SP.sealed p n b)).1, ⟨n + 1, SP.leaf p (n + 1) (SP.sealed p n b)⟩, 0) := by
  unfold SP.putData
  rw [if_neg (by omega)]
  exact SP.put_room h (SP.sealed_len3 hp n hb) _
theorem SP.putPage_room {p : SP.Sp} {S : DM.DS} {n : Nat} (h : SP.Room p S n) {b : List Nat} (hb : b.length ≤ SP.size p) : SP.putPage p S n b = ((SP.lay p S n (padTo b (SP.size p))).1, ⟨n + 1, SP.psum (padTo b (SP.size p))⟩, 0) := by
  unfold SP.putPage
  rw [if_neg (by omega)]
  exact SP.put_room h (by rw [padTo_len]; omega) _
theorem SP.putNode_room {p : SP.Sp} (hp : SP.Ok p) {S : DM.DS} {n : Nat} (h : SP.Room p S n) {x : List Pg} (hx : ND.Nok x) : SP.putNode p S n x = ((SP.lay p S n (SP.nodeBytes p x)).1, ⟨n + 1, SP.nsum (SP.nodeBytes p x)⟩, 0) := SP.put_room h (SP.nodeBytes_len hp hx) _
end Go.Proofs.YthmkpekeghcifaaGreatDoor
end
