/- Texts of 6 subjects in one file: SpQD, SpBack, SpQE, SpQF, SpQG, SuM. Own work. -/
import Derived.Test.YtjalknpeecgllaaGreatDoorMt11
import Derived.Test.YtjalknpeecgllaaGreatDoorMt2
import Derived.Test.YtjalknpeecgllaaGreatDoorMt7
section
namespace Go.Proofs.YtjalknpeecgllaaGreatDoor
open Go.ChangeShapes Go.WideShapes Go.ChangeAt Go.RowKit
open RT XM AM SM
theorem infoRfQ : (Tryz.prog.info? 49).map (·.size) = some 33 := by kernel_rfl
theorem Rd.in_ {w : World} {v : Value} {l : List Nat} (h : Rd w v l) (hl : 0 < l.length) : ∀ g, v.ownBlock = some g -> g < w.heap.size := by
  intro g e
  rcases h.form with ⟨_, q⟩ | ⟨ad, cap, e2, _, hc⟩
  . rw [q] at hl; exact absurd hl (by decide)
  . rw [e2] at e
    have e3 : ad.block = g := Option.some.inj e
    have h0 := hc 0 hl
    have h1 : ad.add 0 = ad := rfl
    rw [h1] at h0
    rw [<- e3]
    exact World.block_lt_of_cell? w _ h0
theorem Dev.old {B : Nat} {A : Nat -> Prop} {w : World} {d : Nat} {S : DM.DS} (h : Dev B A w d S) : ∀ k, k < B \/ A k -> k < w.heap.size := by
  obtain ⟨F, R, hd, h1, h2, h3, h4⟩ := h
  exact fun k hk => hk.elim (fun q => Nat.lt_of_lt_of_le q h4) (h3 k)
theorem Kept.of_grown {B : Nat} {A : Nat -> Prop} {w w' : World} {g : Nat} (h : w.grownBy w' (some g)) (hg : ∀ k, k < B \/ A k -> k ≠ g) : Kept B A w w' := ⟨h.os, h.tape, h.output, h.size, fun k hk q => h.block k hk (fun e => hg k q (Option.some.inj e))⟩
def SP.pput (p : SP.Sp) (S : DM.DS) (n : Nat) (me : Int) (mb fm : List Nat) : DM.DS × Pg × Int :=
  if 65535 < n then (S, ND.zp, 2) else if me ≠ 0 \/ mb.length ≠ SP.size p then (S, ND.zp, 2) else SP.put p S n mb fm
def PwA (w2 : World) (B : Nat) (A2 : Nat -> Prop) (d : Nat) (S1 : DM.DS) : Nat -> Told -> World -> Prop
  | 0, _, W => Below w2.heap.size w2 W
  | 1, _, W => Below w2.heap.size w2 W
  | _, _, W => Dev B A2 W d S1 /\ Kept B A2 w2 W
set_option maxRecDepth 100000 in
set_option maxHeartbeats 4000000 in
theorem spcput_any {Z : Nat -> Prop} {s d : Nat} {p : SP.Sp} (hp : SP.Ok p) (B : Nat) (A : Nat -> Prop) (S : DM.DS) (w : World) (hd : Dev B A w d S) (ht : Tame S) (h : Spa Z w s d p) (n : Nat) (hn32 : n < 4294967296) (F G : FuncId) (fs gs : Array Value) (me : Int) (mb fm : List Nat) (hf : Bytes 32 fm)
    (hF : ∀ W, (callFunc F (#[] ++ fs)).run Tryz.prog W = .ok (.enter F (#[] ++ fs)) W) (hG : ∀ v W, (callFunc G (#[v] ++ gs)).run Tryz.prog W = .ok (.enter G (#[v] ++ gs)) W)
    (hM : n <= 65535 -> ∀ W, Below w.heap.size w W -> Calls Tryz.prog F (#[] ++ fs) W fun e W' => ∃ y, e = .returned (.tuple #[y, .int .i64 me]) /\ Rd W' y mb /\ NewB W y /\ Below W.heap.size W W')
    (hS : n <= 65535 -> ∀ W v, Kept B A w W -> Rd W v mb -> mb.length = SP.size p -> Calls Tryz.prog G (#[v] ++ gs) W fun e W' => e = .returned (.agg (row8 fm).toArray) /\ Below W.heap.size W W') :
    Calls Tryz.prog 50 #[.pointer (some ⟨s, 0, none⟩), .int .u32 (n : Int), .func (.func F) #[] fs, .func (.func G) #[] gs] w fun e w' => e = .returned (.tuple #[.agg (pc (SP.pput p S n me mb fm).2.1).toArray, .int .i64 (SP.pput p S n me mb fm).2.2]) /\ Dev B A w' d (SP.pput p S n me mb fm).1 /\ Kept B A w w' := by
  have HOL := Lib.hid hd.old
  have HFR := Lib.hid (fun k (hk : k < B \/ A k) => (show k ≠ w.heap.size from fun e => by have := hd.old k hk; omega))
  obtain ⟨RZ, hRZ⟩ : ∃ x, x = pc ND.zp := ⟨_, rfl⟩
  have hz : ∀ w, (zeroValue 49).run Tryz.prog w = .ok (.agg RZ.toArray) w := by rw [hRZ]; exact zeroRfP
  have hbr : Tryz.prog.built 49 [] = some RZ.toArray := by rw [hRZ]; exact builtRfP
  have RZ33 := Lib.hid (show RZ.length = 33 by rw [hRZ]; exact pc_len ND.zp_ok)
  have RZ1 := Lib.hid (show (RZ.toArray.all (·.oneCell')) = true by rw [hRZ]; exact one_pg _)
  obtain ⟨w1, hw1⟩ : ∃ x, x = w.alloc (.cells RZ.toArray 49) := ⟨_, rfl⟩
  have W1 := Lib.hid (show Below w.heap.size w w1 by rw [hw1]; exact (Below.refl w.heap.size w).alloc (Nat.le_refl _) (.cells RZ.toArray 49))
  have R1 := Lib.hid (show Blk w1 w.heap.size 49 RZ by rw [hw1]; exact Blk.new w 49 RZ _ rfl)
  have HD := Lib.hid hd
  unfold SP.pput
  by_cases hn : 65535 < n
  . rw [if_pos hn]
    have hni : (65535 : Int) < (n : Int) := by omega
    rw [<- hRZ]
    clear hRZ hM hS hF hG hf h ht hd hp hn32 hn
    go_enter Tryz.func50, Tryz.ntmps50
    go_upto_region 1 with fail
    rw [<- hw1]
    clear hw1
    go_wp2_with (first
      | ((with_reducible show wpList _ _ _ (Oper.mk (some 20) (.build _ _) _ _ _ _ :: _) _ _); refine wpList_wanted rfl (.agg RZ.toArray) (ex_build0 rfl hbr) ?_)
      | ((with_reducible show wpList _ _ _ (Oper.mk _ (.store _ (.tmp 8) (.tmp 20)) _ _ _ _ :: _) _ _); refine wpList_store_blk rfl 49 (.tmp 8) (.tmp 20) rfl w.heap.size 0 RZ rfl rfl 49 RZ R1.out (by rw [Nat.zero_add]; exact Nat.le_refl _) (by rw [RZ33.out]; exact infoRfQ) (RZ1.out) ?_; intro w2 b' g'; rw [splice_all _ _ (by rfl)] at b'; have U := Lib.hid b'; have GRU := Lib.hid g'; clear b' g'))
    refine bodyPost_ret (results_mid2 rfl _ _ w.heap.size RZ _ rfl U.out.range Tryz.underlying49 rfl (by rw [RZ33.out]; exact infoRfQ)) rfl ?_
    exact ⟨rfl, ((HD.out.own W1.out).turn GRU.out (fun g e => .inr (by rw [<- Option.some.inj e]; exact ⟨Nat.le_refl _, R1.out.lt⟩))).less (fun _ q => .inl q), (Kept.of_below W1.out).trans (Kept.of_grown GRU.out HFR.out)⟩
  rw [if_neg hn]
  have hn5 : n <= 65535 := by omega
  have hng : ¬ (65535 : Int) < (n : Int) := by omega
  have HF := Lib.hid hF
  have HG := Lib.hid hG
  have HM := Lib.hid (hM hn5)
  have HS := Lib.hid (hS hn5)
  have HSI := Lib.hid (fun W (hW : Below w.heap.size w W) => spsize_any hp (h.below hW))
  by_cases hme : me ≠ 0
  . rw [if_pos (.inl hme)]
    have hmb : (me == 0) = false := by rw [beq_eq_false_iff_ne]; exact hme
    have hme' : ¬ me = 0 := hme
    rw [<- hRZ]
    clear hRZ hM hS hF hG hf h ht hd hp hn32 hn hn5 hme HS HG HSI
    go_enter Tryz.func50, Tryz.ntmps50
    go_upto_region 1 with fail
    rw [<- hw1]
    clear hw1
    go_wp2_with (first
      | ((with_reducible show wpList _ _ _ (Oper.mk (some 23) (.call _) _ _ _ _ :: _) _ _); refine wpList_enter rfl (ex_call_cl (vs := #[]) rfl rfl (by simp) (HF.out _)) (HM.out w1 W1.out) ?_; rintro e w2 ⟨y, rfl, ry, ny, b2⟩; obtain ⟨ya, yc, rfl, _⟩ := ry.shape; refine ⟨_, rfl, ?_⟩; have RY := Lib.hid ry; have NY := Lib.hid ny; have W2 := Lib.hid (W1.out.on b2); have R2 := Lib.hid (R1.out.below b2 R1.out.lt); clear ry ny b2)
      | ((with_reducible show wpList _ _ _ (Oper.mk (some 35) (.build _ _) _ _ _ _ :: _) _ _); refine wpList_wanted rfl (.agg RZ.toArray) (ex_build0 rfl hbr) ?_)
      | ((with_reducible show wpList _ _ _ (Oper.mk _ (.store _ (.tmp 8) (.tmp 35)) _ _ _ _ :: _) _ _); refine wpList_store_blk rfl 49 (.tmp 8) (.tmp 35) rfl w.heap.size 0 RZ rfl rfl 49 RZ R2.out (by rw [Nat.zero_add]; exact Nat.le_refl _) (by rw [RZ33.out]; exact infoRfQ) (RZ1.out) ?_; intro w4 b' g'; rw [splice_all _ _ (by rfl)] at b'; have U := Lib.hid b'; have GRU := Lib.hid g'; clear b' g'))
    refine bodyPost_ret (results_mid2 rfl _ _ w.heap.size RZ _ rfl U.out.range Tryz.underlying49 rfl (by rw [RZ33.out]; exact infoRfQ)) rfl ?_
    exact ⟨rfl, ((HD.out.own W2.out).turn GRU.out (fun g e => .inr (by rw [<- Option.some.inj e]; exact ⟨Nat.le_refl _, R2.out.lt⟩))).less (fun _ q => .inl q), (Kept.of_below W2.out).trans (Kept.of_grown GRU.out HFR.out)⟩
  obtain rfl : me = 0 := by omega
  by_cases hsz : mb.length ≠ SP.size p
  . rw [if_pos (.inr hsz)]
    have hzb : ((mb.length : Int) == (SP.size p : Int)) = false := by rw [beq_eq_false_iff_ne]; omega
    have hzn : ¬ (mb.length : Int) = (SP.size p : Int) := by omega
    rw [<- hRZ]
    obtain ⟨SZ, hSZ⟩ : ∃ x, x = SP.size p := ⟨_, rfl⟩
    rw [<- hSZ] at HSI hzb hzn
    clear hRZ hM hS hF hG hf h ht hd hp hn32 hn hn5 hme HS HG hSZ hsz
    go_enter Tryz.func50, Tryz.ntmps50
    go_upto_region 1 with fail
    rw [<- hw1]
    clear hw1
    go_wp2_with (first
      | ((with_reducible show wpList _ _ _ (Oper.mk (some 23) (.call _) _ _ _ _ :: _) _ _); refine wpList_enter rfl (ex_call_cl (vs := #[]) rfl rfl (by simp) (HF.out _)) (HM.out w1 W1.out) ?_; rintro e w2 ⟨y, rfl, ry, ny, b2⟩; obtain ⟨ya, yc, rfl, _⟩ := ry.shape; refine ⟨_, rfl, ?_⟩; have RY := Lib.hid ry; have NY := Lib.hid ny; have W2 := Lib.hid (W1.out.on b2); have R2 := Lib.hid (R1.out.below b2 R1.out.lt); clear ry ny b2)
      | (go_at_call 82; (with_reducible refine (HSI.out _ W2.out).mono ?_); rintro e w3 ⟨rfl, hw⟩; subst w3)
      | ((with_reducible show wpList _ _ _ (Oper.mk (some 35) (.build _ _) _ _ _ _ :: _) _ _); refine wpList_wanted rfl (.agg RZ.toArray) (ex_build0 rfl hbr) ?_)
      | ((with_reducible show wpList _ _ _ (Oper.mk _ (.store _ (.tmp 8) (.tmp 35)) _ _ _ _ :: _) _ _); refine wpList_store_blk rfl 49 (.tmp 8) (.tmp 35) rfl w.heap.size 0 RZ rfl rfl 49 RZ R2.out (by rw [Nat.zero_add]; exact Nat.le_refl _) (by rw [RZ33.out]; exact infoRfQ) (RZ1.out) ?_; intro w4 b' g'; rw [splice_all _ _ (by rfl)] at b'; have U := Lib.hid b'; have GRU := Lib.hid g'; clear b' g'))
    refine bodyPost_ret (results_mid2 rfl _ _ w.heap.size RZ _ rfl U.out.range Tryz.underlying49 rfl (by rw [RZ33.out]; exact infoRfQ)) rfl ?_
    exact ⟨rfl, ((HD.out.own W2.out).turn GRU.out (fun g e => .inr (by rw [<- Option.some.inj e]; exact ⟨Nat.le_refl _, R2.out.lt⟩))).less (fun _ q => .inl q), (Kept.of_below W2.out).trans (Kept.of_grown GRU.out HFR.out)⟩
  rw [if_neg (by omega)]
  have hmz : mb.length = SP.size p := by omega
  have hps : 512 <= SP.size p /\ SP.size p <= 1024 := by unfold SP.size; have := hp.per; omega
  have hpl := SP.place_le hp hn5
  have HP := Lib.hid (fun W => suplace_any (p.cl : Int) (p.per : Int) n hn32 W)
  rw [SP.su_place hp hn5] at HP
  have HSPA := Lib.hid h
  have HTM := Lib.hid ht
  have HSIZ := Lib.hid hps
  have HMZ := Lib.hid hmz
  have HPLB := Lib.hid hpl
  obtain ⟨m, hm⟩ : ∃ m, m = n + 1 := ⟨_, rfl⟩
  have HWN := Lib.hid (show IntKind.u32.wrap ((n : Int) + 1) = (m : Int) by rw [IntKind.wrap_u32]; omega)
  have hwn := HWN.out
  have HBU := Lib.hid (show Tryz.prog.built 49 [(0, .int .u32 (m : Int)), (1, .agg (row8 fm).toArray)] = some (pc ⟨n + 1, fm⟩).toArray by rw [hm]; exact built_refN _ hf)
  obtain ⟨NR, hNR⟩ : ∃ x, x = pc ⟨n + 1, fm⟩ := ⟨_, rfl⟩
  have NR33 := Lib.hid (show NR.length = 33 by rw [hNR]; exact pc_len (p := ⟨n + 1, fm⟩) ⟨by show n + 1 < 4294967296; omega, hf⟩)
  have NR1 := Lib.hid (show (NR.toArray.all (·.oneCell')) = true by rw [hNR]; exact one_pg _)
  rw [<- hNR] at HBU
  obtain ⟨FM, hFM⟩ : ∃ x, x = row8 fm := ⟨_, rfl⟩
  rw [<- hFM] at HS HBU
  obtain ⟨GC, hGC⟩ : ∃ x, x = [Value.int .i64 (p.cl : Int), .int .i64 (p.per : Int)] := ⟨_, rfl⟩
  have GC2 := Lib.hid (show GC.length = 2 by rw [hGC]; rfl)
  have HGC0 := Lib.hid hGC
  rw [show (#[Value.int .i64 (p.cl : Int), .int .i64 (p.per : Int)] : Array Value) = GC.toArray by rw [hGC]] at HP
  unfold SP.put SP.lay
  rw [if_neg hn]
  simp only
  obtain ⟨S1, hS1⟩ : ∃ x, x = (DM.write S (SP.place p n) mb).1 := ⟨_, rfl⟩
  obtain ⟨E1, hE1⟩ : ∃ x, x = (DM.write S (SP.place p n) mb).2 := ⟨_, rfl⟩
  rw [<- hS1, <- hE1]
  have HWR := Lib.hid (fun (A2 : Nat -> Prop) W v (hD : Dev B A2 W d S) (hv : Rd W v mb) (hg : ∀ g, v.ownBlock = some g -> g < B \/ A2 g) => (show Calls Tryz.prog 92 #[.pointer (some ⟨d, 0, none⟩), .int .i64 (SP.place p n : Int), v] W fun e w' => e = .returned (.int .i64 E1) /\ Dev B A2 w' d S1 /\ Kept B A2 W w' by
    rw [hS1, hE1]; exact dev_write B A2 d S W hD ht (SP.place p n : Int) ⟨by omega, by omega⟩ v mb hv (by omega) (fun _ => hg)))
  obtain ⟨PL, hPL⟩ : ∃ x, x = SP.place p n := ⟨_, rfl⟩
  rw [<- hPL] at HP HWR
  obtain ⟨SZ, hSZ⟩ : ∃ x, x = SP.size p := ⟨_, rfl⟩
  have hzb : ((mb.length : Int) == (SZ : Int)) = true := by rw [beq_iff_eq]; omega
  have hze : (mb.length : Int) = (SZ : Int) := by omega
  rw [<- hSZ] at HSI HSIZ HMZ HS
  obtain ⟨PR, hPR⟩ : ∃ x : DM.DS × Pg × Int, x = (if SP.told E1 = 0 then (S1, ⟨n + 1, fm⟩, 0) else (S1, ND.zp, SP.told E1)) := ⟨_, rfl⟩
  rw [<- hPR]
  have HPR := Lib.hid hPR
  have HNR := Lib.hid hNR
  have HRZ := Lib.hid hRZ
  clear hRZ hNR hFM hGC hS1 hE1 hPL hSZ hPR hM hS hF hG hf h ht hd hp hn32 hn hn5 hme hsz hps hpl hmz hm
  go_enter Tryz.func50, Tryz.ntmps50
  go_upto_region 1 with fail
  rw [<- hw1]
  clear hw1
  go_upto_region 8 with (first
    | ((with_reducible show wpList _ _ _ (Oper.mk (some 23) (.call _) _ _ _ _ :: _) _ _); refine wpList_enter rfl (ex_call_cl (vs := #[]) rfl rfl (by simp) (HF.out _)) (HM.out w1 W1.out) ?_; rintro e w2 ⟨y, rfl, ry, ny, b2⟩; obtain ⟨ya, yc, rfl, _⟩ := ry.shape; refine ⟨_, rfl, ?_⟩; have RY := Lib.hid ry; have NY := Lib.hid ny; have W2 := Lib.hid (W1.out.on b2); have R2 := Lib.hid (R1.out.below b2 R1.out.lt); clear ry ny b2)
    | (go_at_call 82; (with_reducible refine (HSI.out _ W2.out).mono ?_); rintro e w3 ⟨rfl, hw⟩; subst w3))
  obtain ⟨A2, hA2⟩ : ∃ A2 : Nat -> Prop, A2 = fun k => A k \/ (w.heap.size <= k /\ k < w2.heap.size) := ⟨_, rfl⟩
  have HL2 := Lib.hid (show ∀ k, A k -> A2 k from fun k hk => by rw [hA2]; exact .inl hk)
  have HI2 := Lib.hid (show ∀ k, w.heap.size <= k -> k < w2.heap.size -> A2 k from fun k h1 h2 => by rw [hA2]; exact .inr ⟨h1, h2⟩)
  have HD2 := Lib.hid (show Dev B A2 w2 d S by rw [hA2]; exact HD.out.own W2.out)
  have HC0 := Lib.hid (fun W (hW : Below w2.heap.size w2 W) => (show W.cell? ⟨s, 0, none⟩ = some (.pointer (some ⟨d, 0, none⟩)) by obtain ⟨x, c0, _⟩ := (HSPA.out.below (W2.out.on hW)).cells; exact c0))
  have HGC := Lib.hid (fun W (hW : Below w2.heap.size w2 W) => (show W.rangeAt s 1 GC by rw [HGC0.out]; exact (HSPA.out.below (W2.out.on hW)).geo))
  have HW := Lib.hid (fun W (hW : Below w2.heap.size w2 W) => HWR.out A2 W (.slice ya mb.length yc) (HD2.out.below hW) (RY.out.below hW) (fun g e => .inr (HI2.out g (Nat.le_trans W1.out.size (NY.out g e)) (RY.out.in_ (by have := HMZ.out; have := HSIZ.out; omega) g e))))
  clear hA2
  refine wp_region_z (by kernel_rfl) [9, 11] (by kernel_rfl) (by kernel_rfl) (Stg [9, 11] ((PwA w2 B A2 d S1))) [.pre (.pointer (some ⟨s, 0, none⟩)), .pre (.pointer (some ⟨s, 0, none⟩)), .pre (.pointer (some ⟨s, 0, none⟩)), .pre (.pointer (some ⟨d, 0, none⟩)), .pre (.pointer (some ⟨s, 0, none⟩)), .pre (.pointer (some ⟨s, 0, none⟩)), .pre (.pointer (some ⟨s, 1, none⟩)), .pre (.agg GC.toArray), .pre (.int .u32 (n : Int)), .pre (.int .i64 (PL : Int)), .pre (.slice ya mb.length yc), .pre (.int .i64 E1), .pre (.int .i64 E1)] (fun i hi hq => by
        simp only [List.mem_cons, List.mem_nil_iff, or_false] at hi
        rcases hi with rfl | rfl
        . exact absurd hq (by decide +kernel)
        . exact absurd hq (by decide +kernel)) (Stg.zero (Below.refl _ _).drew) ?_ ?_
  . refine ⟨?_, ?_, ?_, ?_, ?_, ?_, ?_, ?_, ?_, ?_, ?_, ?_, ?_, trivial⟩
    . intro a w5 r hF hI hns hri h1 h2 hd
      have e0 : a.eval (.tmp 0) = .pointer (some ⟨s, 0, none⟩) := hF 0 (by decide +kernel)
      exact doesZ_read (v := .pointer (some ⟨s, 0, none⟩)) (by decide) rfl (ex_move rfl e0) hI rfl
    . intro a w5 r hF hI hns hri h1 h2 hd
      have e36 : a.eval (.tmp 36) = .pointer (some ⟨s, 0, none⟩) := hd 0 (by decide +kernel)
      exact doesZ_read (v := .pointer (some ⟨s, 0, none⟩)) (by decide) rfl (ex_nilCheck rfl e36) hI rfl
    . intro a w5 r hF hI hns hri h1 h2 hd
      have e37 : a.eval (.tmp 37) = .pointer (some ⟨s, 0, none⟩) := hd 1 (by decide +kernel)
      exact doesZ_read (v := .pointer (some ⟨s, 0, none⟩)) (by decide) rfl (ex_fieldAddr rfl e37 (by go_simp)) hI rfl
    . intro a w5 r hF hI hns hri h1 h2 hd
      have e38 : a.eval (.tmp 38) = .pointer (some ⟨s, 0, none⟩) := hd 2 (by decide +kernel)
      obtain ⟨k, hk1, hk2, hA⟩ : ∃ k, 0 <= k /\ k <= 1 /\ (PwA w2 B A2 d S1) k r w5 := hI.between 0 1 (.inl rfl) (.inr ⟨by decide, h1 11 (by decide) (by decide +kernel)⟩)
      have hB : w5.cell? ⟨s, 0, none⟩ = some (.pointer (some ⟨d, 0, none⟩)) := by
        rcases (show k = 0 \/ k = 1 by omega) with rfl | rfl
        . exact HC0.out w5 hA
        . exact HC0.out w5 hA
      exact doesZ_read (v := .pointer (some ⟨d, 0, none⟩)) (by decide) rfl (by unfold execOp; simp only [e38]; go_simp) hI rfl
    . intro a w5 r hF hI hns hri h1 h2 hd
      have e0 : a.eval (.tmp 0) = .pointer (some ⟨s, 0, none⟩) := hF 0 (by decide +kernel)
      exact doesZ_read (v := .pointer (some ⟨s, 0, none⟩)) (by decide) rfl (ex_move rfl e0) hI rfl
    . intro a w5 r hF hI hns hri h1 h2 hd
      have e40 : a.eval (.tmp 40) = .pointer (some ⟨s, 0, none⟩) := hd 4 (by decide +kernel)
      exact doesZ_read (v := .pointer (some ⟨s, 0, none⟩)) (by decide) rfl (ex_nilCheck rfl e40) hI rfl
    . intro a w5 r hF hI hns hri h1 h2 hd
      have e41 : a.eval (.tmp 41) = .pointer (some ⟨s, 0, none⟩) := hd 5 (by decide +kernel)
      exact doesZ_read (v := .pointer (some ⟨s, 1, none⟩)) (by decide) rfl (ex_fieldAddr rfl e41 (by go_simp)) hI rfl
    . intro a w5 r hF hI hns hri h1 h2 hd
      have e42 : a.eval (.tmp 42) = .pointer (some ⟨s, 1, none⟩) := hd 6 (by decide +kernel)
      obtain ⟨k, hk1, hk2, hA⟩ : ∃ k, 0 <= k /\ k <= 1 /\ (PwA w2 B A2 d S1) k r w5 := hI.between 0 1 (.inl rfl) (.inr ⟨by decide, h1 11 (by decide) (by decide +kernel)⟩)
      have hB : w5.rangeAt (s) 1 GC := by
        rcases (show k = 0 \/ k = 1 by omega) with rfl | rfl
        . exact HGC.out w5 hA
        . exact HGC.out w5 hA
      exact doesZ_ld (by decide) rfl 33 (.tmp 42) rfl (s) 1 e42 GC hB _ Tryz.underlying33 rfl (by rw [GC2.out]; exact infoGeoP) hI rfl
    . intro a w5 r hF hI hns hri h1 h2 hd
      have e1 : a.eval (.tmp 1) = .int .u32 (n : Int) := hF 1 (by decide +kernel)
      exact doesZ_read (v := .int .u32 (n : Int)) (by decide) rfl (ex_move rfl e1) hI rfl
    . intro a w5 r hF hI hns hri h1 h2 hd
      have e43 : a.eval (.tmp 43) = .agg GC.toArray := hd 7 (by decide +kernel)
      have e44 : a.eval (.tmp 44) = .int .u32 (n : Int) := hd 8 (by decide +kernel)
      have hA0 : (PwA w2 B A2 d S1) 0 r w5 := hI.at_ 0 (.inl rfl) (.inr ⟨by decide, hri⟩)
      exact doesZ_call (by decide) rfl (ex_call (vs := #[.agg GC.toArray, .int .u32 (n : Int)]) rfl (by simp only [List.map_toArray, List.map_cons, List.map_nil, e43, e44]) (by go_simp)) ((HP.out w5).mono fun e w6 hh => ⟨_, hh.1, hI.next 0 9 _ rfl (by decide) (.inl rfl) hri (by decide) (hA0.on hh.2), rfl⟩)
    . intro a w5 r hF hI hns hri h1 h2 hd
      have e10 : a.eval (.tmp 10) = .slice ya mb.length yc := hF 10 (by decide +kernel)
      exact doesZ_read (v := .slice ya mb.length yc) (by decide) rfl (ex_move rfl e10) hI rfl
    . intro a w5 r hF hI hns hri h1 h2 hd
      have e39 : a.eval (.tmp 39) = .pointer (some ⟨d, 0, none⟩) := hd 3 (by decide +kernel)
      have e45 : a.eval (.tmp 45) = .int .i64 (PL : Int) := hd 9 (by decide +kernel)
      have e46 : a.eval (.tmp 46) = .slice ya mb.length yc := hd 10 (by decide +kernel)
      have hA0 : (PwA w2 B A2 d S1) 1 r w5 := hI.at_ 1 (.inr ⟨by decide, h2 9 (by decide) (by decide +kernel)⟩) (.inr ⟨by decide, hri⟩)
      exact doesZ_call (by decide) rfl (ex_call (vs := #[.pointer (some ⟨d, 0, none⟩), .int .i64 (PL : Int), .slice ya mb.length yc]) rfl (by simp only [List.map_toArray, List.map_cons, List.map_nil, e39, e45, e46]) (by go_simp)) ((HW.out w5 hA0).mono fun e w6 hh => ⟨_, hh.1, hI.next 1 11 _ rfl (by decide) (.inr ⟨by decide, h2 9 (by decide) (by decide +kernel)⟩) hri (by decide) (⟨hh.2.1, (Kept.of_below hA0).trans hh.2.2⟩), rfl⟩)
    . intro a w5 r hF hI hns hri h1 h2 hd
      have e47 : a.eval (.tmp 47) = .int .i64 E1 := hd 11 (by decide +kernel)
      exact doesZ_read (v := .int .i64 E1) (by decide) rfl (ex_assign rfl e47) hI rfl
  . intro vs r w5 hI hS hvs
    have hA : (PwA w2 B A2 d S1) 2 r w5 := hI.at_ 2 (.inr ⟨by decide, hS 11 (by decide)⟩) (.inl rfl)
    have e12 : vs 12 = .int .i64 E1 := hvs 12 (by decide)
    have D5 := Lib.hid hA.1
    have K5 := Lib.hid hA.2
    have R5 := Lib.hid (R2.out.kept hA.2 (.inr (HI2.out _ (Nat.le_refl _) R2.out.lt)))
    have RY5 := Lib.hid (RY.out.kept hA.2 (fun g e => .inr (HI2.out g (Nat.le_trans W1.out.size (NY.out g e)) (RY.out.in_ (by have := HMZ.out; have := HSIZ.out; omega) g e))))
    have KW := Lib.hid ((Kept.of_below W2.out).trans (hA.2.less HL2.out))
    simp only [putOps, Act.put, List.setIfInBounds_toArray, List.set_cons_zero, List.set_cons_succ, e12]
    clear hI hS hvs hA e12 HW HC0 HGC HWR HM HF HSI HP
    generalize vs 0 = z0
    generalize vs 1 = z1
    generalize vs 2 = z2
    generalize vs 3 = z3
    generalize vs 4 = z4
    generalize vs 5 = z5
    generalize vs 6 = z6
    generalize vs 7 = z7
    generalize vs 8 = z8
    generalize vs 9 = z9
    generalize vs 10 = z10
    generalize vs 11 = z11
    by_cases hE : E1 = 0
    . subst hE
      have HPE := Lib.hid (show PR = (S1, ⟨n + 1, fm⟩, 0) by rw [HPR.out, if_pos (by decide)])
      clear HPR
      go_wp2_with (first
        | ((with_reducible show wpList _ _ _ (Oper.mk (some 57) (.call _) _ _ _ _ :: _) _ _); refine wpList_enter rfl (ex_call_cl (vs := #[.slice ya mb.length yc]) rfl rfl (by simp only [List.map_toArray, List.map_cons, List.map_nil]; rfl) (HG.out _ _)) (HS.out w5 _ KW.out RY5.out HMZ.out) ?_; rintro e w6 ⟨rfl, b6⟩; refine ⟨_, rfl, ?_⟩; have R6 := Lib.hid (R5.out.below b6 R5.out.lt); have D6 := Lib.hid (D5.out.below b6); have K6 := Lib.hid (KW.out.trans (Kept.of_below b6)); clear b6; simp only [Act.put, List.setIfInBounds_toArray, List.set_cons_zero, List.set_cons_succ]; refine wpList_wanted rfl (.agg NR.toArray) (ex_build rfl (by simp only [List.map_toArray, List.map_cons, List.map_nil]; exact HBU.out)) ?_; simp only [Act.put, List.setIfInBounds_toArray, List.set_cons_zero, List.set_cons_succ])
        | ((with_reducible show wpList _ _ _ (Oper.mk _ (.store _ (.tmp 8) (.tmp 58)) _ _ _ _ :: _) _ _); refine wpList_store_blk rfl 49 (.tmp 8) (.tmp 58) rfl w.heap.size 0 NR rfl rfl 49 RZ R6.out (by rw [NR33.out, RZ33.out]; exact Nat.le_refl 33) (by rw [NR33.out]; exact infoRfQ) (NR1.out) ?_; intro w7 b' g'; rw [splice_all _ _ (by rw [NR33.out, RZ33.out])] at b'; have U := Lib.hid b'; have GRU := Lib.hid g'; clear b' g'))
      refine bodyPost_ret (results_mid2 rfl _ _ w.heap.size NR _ rfl U.out.range Tryz.underlying49 rfl (by rw [NR33.out]; exact infoRfQ)) rfl ?_
      exact ⟨by rw [HPE.out, HNR.out]; rfl, by rw [HPE.out]; exact (D6.out.turn GRU.out (fun g e => by rw [<- Option.some.inj e]; exact HI2.out _ (Nat.le_refl _) R2.out.lt)).less HL2.out, K6.out.trans (Kept.of_grown GRU.out HFR.out)⟩
    . have hEb : (E1 == 0) = false := by rw [beq_eq_false_iff_ne]; exact hE
      have HPE := Lib.hid (show PR = (S1, ND.zp, SP.told E1) by rw [HPR.out, if_neg (fun q => hE (told_zero.1 q))])
      have HFA := Lib.hid (fun W => spfaulted_any E1 W)
      obtain ⟨TE, hTE⟩ : ∃ x, x = SP.told E1 := ⟨_, rfl⟩
      rw [<- hTE] at HFA HPE
      clear HPR hTE
      go_wp2_with (first
        | ((with_reducible show wpList _ _ _ (Oper.mk (some 50) (.build _ _) _ _ _ _ :: _) _ _); refine wpList_wanted rfl (.agg RZ.toArray) (ex_build0 rfl hbr) ?_)
        | (go_at_call 83; (with_reducible refine (HFA.out _).mono ?_); rintro e w6 ⟨rfl, rfl⟩)
        | ((with_reducible show wpList _ _ _ (Oper.mk _ (.store _ (.tmp 8) (.tmp 50)) _ _ _ _ :: _) _ _); refine wpList_store_blk rfl 49 (.tmp 8) (.tmp 50) rfl w.heap.size 0 RZ rfl rfl 49 RZ R5.out (by rw [Nat.zero_add]; exact Nat.le_refl _) (by rw [RZ33.out]; exact infoRfQ) (RZ1.out) ?_; intro w7 b' g'; rw [splice_all _ _ (by rfl)] at b'; have U := Lib.hid b'; have GRU := Lib.hid g'; clear b' g'))
      refine bodyPost_ret (results_mid2 rfl _ _ w.heap.size RZ _ rfl U.out.range Tryz.underlying49 rfl (by rw [RZ33.out]; exact infoRfQ)) rfl ?_
      exact ⟨by rw [HPE.out, HRZ.out]; rfl, by rw [HPE.out]; exact (D5.out.turn GRU.out (fun g e => by rw [<- Option.some.inj e]; exact HI2.out _ (Nat.le_refl _) R2.out.lt)).less HL2.out, KW.out.trans (Kept.of_grown GRU.out HFR.out)⟩
end Go.Proofs.YtjalknpeecgllaaGreatDoor
end

section
namespace Go.Proofs.YtjalknpeecgllaaGreatDoor
open RT XM AM
namespace DM
theorem ext_gb {l m : List Nat} (hl : l.length = m.length) (h : ∀ k, k < l.length -> gb l k = gb m k) : l = m := by
  apply List.ext_getElem hl
  intro i h1 h2
  have := h i h1
  unfold gb at this
  rw [List.getD_eq_getElem?_getD, List.getD_eq_getElem?_getD, List.getElem?_eq_getElem h1, List.getElem?_eq_getElem h2] at this
  exact this
def part (s : List Nat) (c m : Nat) : List Nat := (s.drop c).take m
theorem part_len {s : List Nat} {c m : Nat} (h : c + m <= s.length) : (part s c m).length = m := by unfold part; rw [List.length_take, List.length_drop]; omega
theorem part_get (s : List Nat) (c m k : Nat) (h : k < m) : gb (part s c m) k = gb s (c + k) := by unfold part; rw [Go.Proofs.YtjalknpeecgllaaGreatDoor.gb_take _ m k h, Go.Proofs.YtjalknpeecgllaaGreatDoor.gb_drop]
theorem part_laid {s b : List Nat} {a : Nat} (_h : a + b.length <= s.length) (hb : b ≠ []) : part (laid s a b) a b.length = b := by
  have hl := laid_len s a b hb
  apply ext_gb (part_len (by omega))
  intro k hk
  rw [part_len (by omega)] at hk
  rw [part_get _ _ _ _ hk, laid_get, if_pos ⟨hb, by omega, by omega⟩, Nat.add_sub_cancel_left]
theorem part_apart {s b : List Nat} {a c m : Nat} (h : c + m <= s.length) (hd : c + m <= a \/ a + b.length <= c) : part (laid s a b) c m = part s c m := by
  have hl := laid_ge s a b
  apply ext_gb (by rw [part_len (by omega), part_len h])
  intro k hk
  rw [part_len (by omega)] at hk
  rw [part_get _ _ _ _ hk, part_get _ _ _ _ hk, laid_get, if_neg (by omega)]
theorem laid_same {s b : List Nat} {a : Nat} (h : a + b.length <= s.length) : (laid s a b).length = s.length := by
  by_cases hb : b = []
  . subst hb; rw [laid_nil]
  . rw [laid_len s a b hb]; omega
end DM
namespace SP
open DM (DS)
structure Room (s : Sp) (d : DS) (n : Nat) : Prop where
  down : d.down = false
  told : d.told = false
  most : d.seen.length <= d.most
  num : n <= 65535
  fits : place s n + size s <= d.seen.length
theorem size_pos {s : Sp} (h : Ok s) : 512 <= size s := by unfold size; have := h.per; omega
theorem lay_room {s : Sp} {d : DS} {n : Nat} (h : Room s d n) {b : List Nat} (hb : b.length = size s) : lay s d n b = ({ DM.wrote d (place s n) b with steps := d.steps + 1 }, 0) := by
  have h1 := h.fits
  have h2 := h.most
  have e : DM.write d (place s n : Int) b = ({ DM.wrote d (place s n) b with steps := d.steps + 1 }, 0) := by
    unfold DM.write
    rw [h.down, if_neg (by decide), if_neg (by omega), if_neg (by omega), Int.toNat_natCast]
    unfold DM.step
    rw [if_pos h.told]
    rfl
  unfold lay
  rw [e]
  rfl
theorem lay_seen {s : Sp} {d : DS} {n : Nat} (h : Room s d n) {b : List Nat} (hb : b.length = size s) : (lay s d n b).1.seen = DM.laid d.seen (place s n) b /\ (lay s d n b).2 = 0 := by rw [lay_room h hb]; exact ⟨rfl, rfl⟩
theorem Room.lay {s : Sp} {d : DS} {n m : Nat} (h : Room s d n) (k : Room s d m) {b : List Nat} (hb : b.length = size s) : Room s (SP.lay s d n b).1 m := by
  have e := lay_room h hb
  have h1 := h.fits
  have hl : (DM.laid d.seen (place s n) b).length = d.seen.length := DM.laid_same (by omega)
  rw [e]
  refine ⟨h.down, h.told, ?_, k.num, ?_⟩
  . show (DM.laid d.seen (place s n) b).length <= d.most
    rw [hl]; exact h.most
  . show _ <= (DM.laid d.seen (place s n) b).length
    rw [hl]; exact k.fits
theorem put_room {s : Sp} {d : DS} {n : Nat} (h : Room s d n) {b : List Nat} (hb : b.length = size s) (sum : List Nat) : put s d n b sum = ((lay s d n b).1, ⟨n + 1, sum⟩, 0) := by
  unfold put
  rw [if_neg (by have := h.num; omega), if_pos (lay_seen h hb).2]
theorem raw_room {s : Sp} {d : DS} {n : Nat} (h : Room s d n) (sum : List Nat) : raw s d ⟨n + 1, sum⟩ = (DM.part d.seen (place s n) (size s), 0) := by
  have h1 := h.fits
  have h3 := h.num
  unfold raw
  rw [if_neg (by show ¬ (n + 1 = 0 \/ 65536 < n + 1); omega)]
  have e : DM.read d (place s n : Int) (size s : Int) = (DM.part d.seen (place s n) (size s), 0) := by
    unfold DM.read
    rw [h.down, if_neg (by decide), if_neg (by omega), Int.toNat_natCast, Int.toNat_natCast]
    rfl
  show ((DM.read d (place s n : Int) (size s : Int)).1, told (DM.read d (place s n : Int) (size s : Int)).2) = _
  rw [e]
  rfl
theorem raw_lay {s : Sp} (hs : Ok s) {d : DS} {n : Nat} (h : Room s d n) {b : List Nat} (hb : b.length = size s) (sum : List Nat) : raw s (lay s d n b).1 ⟨n + 1, sum⟩ = (b, 0) := by
  have h1 := h.fits
  have h2 := size_pos hs
  rw [raw_room (h.lay h hb) sum, (lay_seen h hb).1, <- hb, DM.part_laid (by omega) (fun e => by rw [e] at hb; simp at hb; omega)]
theorem place_apart {s : Sp} {n m : Nat} (h : n ≠ m) : place s m + size s <= place s n \/ place s n + size s <= place s m := by
  unfold place size
  rcases Nat.lt_or_gt_of_ne h with q | q
  . right
    have := Nat.mul_le_mul_right (s.per * 512) (show n + 1 <= m from q)
    rw [Nat.add_mul] at this
    omega
  . left
    have := Nat.mul_le_mul_right (s.per * 512) (show m + 1 <= n from q)
    rw [Nat.add_mul] at this
    omega
theorem raw_other {s : Sp} {d : DS} {n m : Nat} (h : Room s d n) (k : Room s d m) (hnm : n ≠ m) {b : List Nat} (hb : b.length = size s) (sum : List Nat) : raw s (lay s d n b).1 ⟨m + 1, sum⟩ = raw s d ⟨m + 1, sum⟩ := by
  have h1 := k.fits
  rw [raw_room (h.lay k hb) sum, raw_room k sum, (lay_seen h hb).1, DM.part_apart (by omega) (by have := place_apart (s := s) hnm; omega)]
theorem data_back {s : Sp} (hs : Ok s) {d : DS} {n : Nat} {b : List Nat} (hb : ∀ k, gb b k < 256) (hl : b.length = size s) (hr : raw s d ⟨n + 1, leaf s (n + 1) (sealed s n b)⟩ = (sealed s n b, 0)) : data s d ⟨n + 1, leaf s (n + 1) (sealed s n b)⟩ = (b, 0) := by
  unfold data
  rw [hr, if_neg (by simp), if_neg (by simp)]
  show (opened s (n + 1 - 1) (sealed s n b), (0 : Int)) = _
  rw [Nat.add_sub_cancel]
  unfold opened sealed
  rw [xopen_xseal (keys_bytes hs.one) (keys_bytes hs.two) _ hb (by rw [hl]; unfold size; omega)]
theorem nodeBytes_len {s : Sp} (hs : Ok s) {x : List Pg} (hx : ND.Nok x) : (nodeBytes s x).length = size s := by
  have := size_pos hs
  unfold nodeBytes
  rw [padTo_len, ND.ones_len8 hx]
  omega
theorem beg_room {s : Sp} (h : s.per = 1) {n : Nat} (hn : n <= 23) : Room s beg n := by
  have e1 : beg.seen.length = 16384 := by rw [beg_seen, List.length_replicate]
  refine ⟨by rw [beg_eq]; rfl, by rw [beg_eq]; rfl, by rw [e1, beg_most]; decide, by omega, ?_⟩
  rw [e1]
  unfold place size
  rw [h]
  omega
end SP
end Go.Proofs.YtjalknpeecgllaaGreatDoor
end

section
namespace Go.Proofs.YtjalknpeecgllaaGreatDoor
open Go.ChangeShapes Go.WideShapes Go.ChangeAt Go.RowKit
open RT XM AM SM
theorem spcpage_read {Z : Nat -> Prop} {s d : Nat} {p : SP.Sp} (hp : SP.Ok p) (B : Nat) (A : Nat -> Prop) (S : DM.DS) (w : World) (hd : Dev B A w d S) (ht : Tame S) (h : Spa Z w s d p) (r : Pg) (hr : Pok r) (tp : TabP w) : Calls Tryz.prog 42 #[.pointer (some ⟨s, 0, none⟩), .agg (pc r).toArray, .func (.func 21) #[] #[]] w fun e w' => ∃ y, e = .returned (.tuple #[y, .int .i64 (SP.seen p S r (SP.psum (SP.raw p S r).1)).2]) /\ Own w' w.heap.size y (SP.seen p S r (SP.psum (SP.raw p S r).1)).1 /\ Below w.heap.size w w' :=
  spcread_any hp B A S w hd ht h r hr 21 #[] (SP.psum (SP.raw p S r).1) (sha_bytes _) (fun v W => by rw [Array.append_empty]; go_simp) fun _ _ W v hW hv => by rw [Array.append_empty]; exact nppage_any _ v W hv (tp.below hW)
theorem spcnode_read {Z : Nat -> Prop} {s d : Nat} {p : SP.Sp} (hp : SP.Ok p) (B : Nat) (A : Nat -> Prop) (S : DM.DS) (w : World) (hd : Dev B A w d S) (ht : Tame S) (h : Spa Z w s d p) (r : Pg) (hr : Pok r) (tp : TabP w) : Calls Tryz.prog 42 #[.pointer (some ⟨s, 0, none⟩), .agg (pc r).toArray, .func (.func 22) #[] #[]] w fun e w' => ∃ y, e = .returned (.tuple #[y, .int .i64 (SP.seen p S r (SP.nsum (SP.raw p S r).1)).2]) /\ Own w' w.heap.size y (SP.seen p S r (SP.nsum (SP.raw p S r).1)).1 /\ Below w.heap.size w w' :=
  spcread_any hp B A S w hd ht h r hr 22 #[] (SP.nsum (SP.raw p S r).1) (sha_bytes _) (fun v W => by rw [Array.append_empty]; go_simp) fun _ _ W v hW hv => by rw [Array.append_empty]; exact npsum_any _ v W hv (tp.below hW)
theorem SP.page_seen (p : SP.Sp) (S : DM.DS) (r : Pg) : SP.page p S r = SP.seen p S r (SP.psum (SP.raw p S r).1) := rfl
theorem SP.node_none {p : SP.Sp} {S : DM.DS} {r : Pg} (h : (SP.seen p S r (SP.nsum (SP.raw p S r).1)).2 ≠ 0) : SP.node p S r = (ND.zn, (SP.seen p S r (SP.nsum (SP.raw p S r).1)).2) := by
  unfold SP.seen at h ⊢
  unfold SP.node
  by_cases c : (SP.raw p S r).2 ≠ 0
  . rw [if_pos c, if_pos c]
  . rw [if_neg c] at h ⊢
    rw [if_neg c]
    by_cases k : SP.nsum (SP.raw p S r).1 ≠ r.sum
    . rw [if_pos k, if_neg (by unfold SP.nodeOk; rw [decide_eq_false k]; simp)]
    . rw [if_neg k] at h; exact absurd rfl h
theorem SP.node_some {p : SP.Sp} (hp : SP.Ok p) {S : DM.DS} {r : Pg} (h : (SP.seen p S r (SP.nsum (SP.raw p S r).1)).2 = 0) : (SP.seen p S r (SP.nsum (SP.raw p S r).1)).1.length = SP.size p /\ SP.node p S r = if (ND.okN ((SP.seen p S r (SP.nsum (SP.raw p S r).1)).1.take 288) && allZero ((SP.seen p S r (SP.nsum (SP.raw p S r).1)).1.drop 288)) = true then (ND.reads ((SP.seen p S r (SP.nsum (SP.raw p S r).1)).1.take 288), 0) else (ND.zn, 40) := by
  unfold SP.seen at h ⊢
  by_cases c : (SP.raw p S r).2 ≠ 0
  . rw [if_pos c] at h; exact absurd h c
  . rw [if_neg c] at h ⊢
    by_cases k : SP.nsum (SP.raw p S r).1 ≠ r.sum
    . rw [if_pos k] at h; exact absurd h (by decide)
    . rw [if_neg k]
      refine ⟨SP.raw_len hp (by omega), ?_⟩
      unfold SP.node SP.nodeOk
      rw [if_neg c, decide_eq_true (Classical.not_not.1 k), Bool.true_and]
set_option maxRecDepth 100000 in
set_option maxHeartbeats 2000000 in
theorem spcpage_any {Z : Nat -> Prop} {s d : Nat} {p : SP.Sp} (hp : SP.Ok p) (B : Nat) (A : Nat -> Prop) (S : DM.DS) (w : World) (hd : Dev B A w d S) (ht : Tame S) (h : Spa Z w s d p) (r : Pg) (hr : Pok r) (tp : TabP w) : Calls Tryz.prog 16 #[.pointer (some ⟨s, 0, none⟩), .agg (pc r).toArray] w fun e w' => ∃ y, e = .returned (.tuple #[y, .int .i64 (SP.page p S r).2]) /\ Own w' w.heap.size y (SP.page p S r).1 /\ Below w.heap.size w w' := by
  have HA0 := Lib.hid (show (pc r)[0]? = some (.int .u32 (r.at_ : Int)) from rfl)
  have RC33 := Lib.hid (pc_len hr)
  obtain ⟨w1, hw1⟩ : ∃ x, x = w.alloc (.cells (pc r).toArray 49) := ⟨_, rfl⟩
  have W1 := Lib.hid (show Below w.heap.size w w1 by rw [hw1]; exact (Below.refl w.heap.size w).alloc (Nat.le_refl _) (.cells (pc r).toArray 49))
  have R1 := Lib.hid (show Blk w1 w.heap.size 49 (pc r) by rw [hw1]; exact Blk.new w 49 (pc r) _ rfl)
  have HRD := Lib.hid (spcpage_read hp B A S w1 (hd.below W1.out) ht (h.below W1.out) r hr (tp.below W1.out))
  rw [<- SP.page_seen] at HRD
  obtain ⟨RB, hRB⟩ : ∃ x, x = (SP.page p S r).1 := ⟨_, rfl⟩
  obtain ⟨E, hE⟩ : ∃ x, x = (SP.page p S r).2 := ⟨_, rfl⟩
  rw [<- hRB, <- hE] at HRD ⊢
  obtain ⟨RC, hRC⟩ : ∃ x, x = pc r := ⟨_, rfl⟩
  rw [<- hRC] at HRD R1 RC33 hw1 ⊢
  clear hRB hE hRC HA0 hp hd ht h hr tp
  go_enter Tryz.func16, Tryz.ntmps16
  go_upto_region 1 with fail
  rw [<- hw1]
  clear hw1
  go_wp2_with (first
    | ((with_reducible show wpList _ _ _ (Oper.mk _ (.load _ (.tmp 3)) _ _ _ _ :: _) _ _); refine wpList_load_mid rfl 49 (.tmp 3) rfl w.heap.size 0 rfl RC _ R1.out.range Tryz.underlying49 rfl (by rw [RC33.out]; exact infoRfQ) ?_)
    | (go_at_call 42; (with_reducible refine HRD.out.mono ?_); rintro e w2 ⟨y, rfl, oy, b2⟩; obtain ⟨ya, yc, rfl, _⟩ := oy.rd.shape; have O2 := Lib.hid (oy.lower W1.out.size); have W2 := Lib.hid (W1.out.on b2); clear oy b2))
  go_ret2
  exact ⟨_, rfl, O2.out, W2.out⟩
set_option maxRecDepth 100000 in
set_option maxHeartbeats 4000000 in
theorem spcnode_any {Z : Nat -> Prop} {s d : Nat} {p : SP.Sp} (hp : SP.Ok p) (B : Nat) (A : Nat -> Prop) (S : DM.DS) (w : World) (hd : Dev B A w d S) (ht : Tame S) (h : Spa Z w s d p) (r : Pg) (hr : Pok r) (tp : TabP w) : Calls Tryz.prog 15 #[.pointer (some ⟨s, 0, none⟩), .agg (pc r).toArray] w fun e w' => e = .returned (.tuple #[.agg (pcs (SP.node p S r).1).toArray, .int .i64 (SP.node p S r).2]) /\ Below w.heap.size w w' := by
  have HA0 := Lib.hid (show (pc r)[0]? = some (.int .u32 (r.at_ : Int)) from rfl)
  have RC33 := Lib.hid (pc_len hr)
  obtain ⟨Z0, hZ0⟩ : ∃ x, x = pcs ND.zn := ⟨_, rfl⟩
  have hz : ∀ w, (zeroValue 51).run Tryz.prog w = .ok (.agg Z0.toArray) w := by rw [hZ0]; exact zeroNdP
  have hbz : Tryz.prog.built 51 [] = some Z0.toArray := by rw [hZ0]; exact builtNdP
  have Z264 := Lib.hid (show Z0.length = 264 by rw [hZ0]; rfl)
  have Z1 := Lib.hid (show Z0.toArray.all (·.oneCell') = true by rw [hZ0, List.all_toArray, List.all_eq_true]; exact pcs_one' _)
  obtain ⟨w1, hw1⟩ : ∃ x, x = (w.alloc (.cells (pc r).toArray 49)).alloc (.cells Z0.toArray 51) := ⟨_, rfl⟩
  have W1 := Lib.hid (show Below w.heap.size w w1 by rw [hw1]; exact ((Below.refl w.heap.size w).alloc (Nat.le_refl _) (.cells (pc r).toArray 49)).alloc (by simp) _)
  have R1 := Lib.hid (show Blk w1 w.heap.size 49 (pc r) by rw [hw1]; exact (Blk.new w 49 (pc r) _ rfl).alloc _)
  have N1 := Lib.hid (show Blk w1 (w.heap.size + 1) 51 Z0 by rw [hw1]; exact Blk.new _ 51 Z0 (w.heap.size + 1) (by simp))
  have HRD := Lib.hid (spcnode_read hp B A S w1 (hd.below W1.out) ht (h.below W1.out) r hr (tp.below W1.out))
  have HSZ := SP.size_pos hp
  have HNN := Lib.hid (@SP.node_none p S r)
  have HNS := Lib.hid (@SP.node_some p hp S r)
  obtain ⟨PR, hPR⟩ : ∃ x, x = SP.node p S r := ⟨_, rfl⟩
  rw [<- hPR] at HNN HNS ⊢
  obtain ⟨RB, hRB⟩ : ∃ x, x = (SP.seen p S r (SP.nsum (SP.raw p S r).1)).1 := ⟨_, rfl⟩
  obtain ⟨E, hE⟩ : ∃ x, x = (SP.seen p S r (SP.nsum (SP.raw p S r).1)).2 := ⟨_, rfl⟩
  rw [<- hRB] at HRD HNS
  rw [<- hE] at HRD HNN HNS
  obtain ⟨RC, hRC⟩ : ∃ x, x = pc r := ⟨_, rfl⟩
  rw [<- hRC] at HRD R1 RC33 hw1 ⊢
  obtain ⟨SZ, hSZ⟩ : ∃ x, x = SP.size p := ⟨_, rfl⟩
  rw [<- hSZ] at HSZ HNS
  have HZ0 := Lib.hid hZ0
  clear hRB hE hRC HA0 hp hd ht h hr tp hPR hSZ hZ0
  by_cases hE0 : E = 0
  . subst hE0
    obtain ⟨hbl, hpr⟩ := HNS.out rfl
    obtain ⟨bl, hbl2⟩ : ∃ x, x = RB.length := ⟨_, rfl⟩
    rw [<- hbl2] at hbl
    have HB5 := Lib.hid (show 512 <= bl by omega)
    have HB2 := Lib.hid hbl2
    have HPR := Lib.hid hpr
    have HGT := Lib.hid (fun W v (hv : Rd W v (RB.take 288)) => npget_any (RB.take 288) v W hv)
    have HNOT := Lib.hid (fun W v (hv : Rd W v (RB.drop 288)) => nought_any W v (RB.drop 288) hv)
    obtain ⟨GC, hGC⟩ : ∃ x, x = pcs (ND.got (RB.take 288)) := ⟨_, rfl⟩
    obtain ⟨ge, hge⟩ : ∃ x, x = ND.gerr (RB.take 288) := ⟨_, rfl⟩
    have HGO := Lib.hid (fun (hb : ∀ k, gb RB k < 256) => (show GC.length = 264 by rw [hGC]; exact ND.pcs_len8 (ND.got_ok (gb_take_byte RB 288 hb))))
    have GC1 := Lib.hid (show GC.toArray.all (·.oneCell') = true by rw [hGC, List.all_toArray, List.all_eq_true]; exact pcs_one' _)
    rw [<- hGC, <- hge] at HGT
    obtain ⟨NZ, hNZ⟩ : ∃ x, x = allZero (RB.drop 288) := ⟨_, rfl⟩
    obtain ⟨OK, hOK⟩ : ∃ x, x = ND.okN (RB.take 288) := ⟨_, rfl⟩
    have HOKY := Lib.hid (show OK = true -> ge = 0 /\ GC = pcs (ND.reads (RB.take 288)) from fun h => by rw [hge, hGC, (ND.got_yes (hOK.symm.trans h)).1, (ND.got_yes (hOK.symm.trans h)).2]; exact ⟨rfl, rfl⟩)
    have HOKN := Lib.hid (show OK = false -> ge = 4 from fun h => by rw [hge, (ND.got_no (hOK.symm.trans h)).2])
    rw [<- hNZ] at HNOT HPR
    rw [<- hOK] at HPR
    clear hbl hbl2 hpr hGC hge hNZ hOK HNN HNS HSZ
    go_enter Tryz.func15, Tryz.ntmps15
    go_upto_region 1 with fail
    rw [<- hw1]
    clear hw1
    go_upto_region 4 with (first
      | ((with_reducible show wpList _ _ _ (Oper.mk _ (.load _ (.tmp 3)) _ _ _ _ :: _) _ _); refine wpList_load_mid rfl 49 (.tmp 3) rfl w.heap.size 0 rfl RC _ R1.out.range Tryz.underlying49 rfl (by rw [RC33.out]; exact infoRfQ) ?_)
      | (go_at_call 42; (with_reducible refine HRD.out.mono ?_); rintro e w2 ⟨y, rfl, oy, b2⟩; obtain ⟨ya, yc, rfl, _⟩ := oy.rd.shape; rw [<- HB2.out] at oy ⊢; have O2 := Lib.hid oy.rd; have W2 := Lib.hid (W1.out.on b2); have N2 := Lib.hid (N1.out.below b2 N1.out.lt); clear oy b2))
    obtain ⟨ad, had, _⟩ := O2.out.at_ 0 (by rw [<- HB2.out]; have := HB5.out; omega)
    subst had
    have hcap : bl <= yc := by obtain ⟨_, _, e, h⟩ := O2.out.shape; injection e with _ _ e3; rw [HB2.out]; subst e3; exact h
    have G264 := Lib.hid (HGO.out O2.out.byte)
    have HBL := Lib.hid (show 288 <= bl /\ 288 < yc by have := HB5.out; omega)
    have HTK := Lib.hid (O2.out.take 288 (by rw [<- HB2.out]; exact HBL.out.1))
    have hc0 : (288 : Int) <= (bl : Int) := by have := HB5.out; omega
    have hc1 : (288 : Int) <= (yc : Int) := by have := HB5.out; omega
    have hc2 : 288 <= yc := by have := HB5.out; omega
    have hc3 : (bl : Int) <= (yc : Int) := by omega
    go_upto_region 5 with (first
      | (go_at_call 46; (with_reducible refine (HGT.out _ _ HTK.out).mono ?_); rintro e w3 ⟨rfl, b3⟩; have O3 := Lib.hid (O2.out.below b3); have W3 := Lib.hid (W2.out.on b3); have N3 := Lib.hid (N2.out.below b3 N2.out.lt); clear b3)
      | ((with_reducible show wpList _ _ _ (Oper.mk _ (.store _ (.tmp 8) (.tmp 23)) _ _ _ _ :: _) _ _); refine wpList_store_blk rfl 51 (.tmp 8) (.tmp 23) rfl w3.heap.size 0 GC rfl rfl 51 Z0 (Blk.new w3 51 Z0 _ rfl) (by have := G264.out; have := Z264.out; omega) (by rw [G264.out]; exact infoNdP) GC1.out ?_; intro w4 b' g'; rw [splice_all _ _ (by have := G264.out; have := Z264.out; omega)] at b'; have bb := alloc_turn (Below.refl _ _) g'; have X4 := Lib.hid b'; have O4 := Lib.hid (O3.out.below bb); have W4 := Lib.hid (W3.out.on bb); have N4 := Lib.hid (N3.out.below bb N3.out.lt); clear bb; clear b' g'))
    obtain ⟨xb, hxb⟩ : ∃ x, x = w3.heap.size := ⟨_, rfl⟩
    rw [<- hxb] at X4 ⊢
    have HNO := Lib.hid (fun W (h : Rd W (.slice (some ad) bl yc) RB) => (show Calls Tryz.prog 47 #[.slice (some (ad.add 288)) (bl - 288) (yc - 288)] W fun e w' => e = .returned (.bool NZ) /\ W = w' by
      have q := h.drop 288 (by rw [<- HB2.out]; exact HBL.out.1)
      rw [if_neg (by have := HBL.out.2; omega), <- HB2.out] at q
      exact HNOT.out W _ q))
    have hc4 : ¬ yc = 288 := by have := HBL.out; omega
    have hc5 : ¬ 288 = yc := by have := HBL.out; omega
    clear hxb O2 N2 O3 W3 N3 HRD HTK HGT R1 N1 HNOT HGO
    cases OK with
    | false =>
      obtain rfl : ge = 4 := HOKN.out rfl
      have HPE := Lib.hid (show PR = (ND.zn, 40) by rw [HPR.out]; rfl)
      clear HOKY HOKN HPR
      go_wp2_with (first
        | ((with_reducible show wpList _ _ _ (Oper.mk (some 33) (.build _ _) _ _ _ _ :: _) _ _); refine wpList_wanted rfl (.agg Z0.toArray) (ex_build0 rfl hbz) ?_)
        | ((with_reducible show wpList _ _ _ (Oper.mk _ (.store _ (.tmp 4) (.tmp 33)) _ _ _ _ :: _) _ _); refine wpList_store_blk rfl 51 (.tmp 4) (.tmp 33) rfl (w.heap.size + 1) 0 Z0 rfl rfl 51 Z0 N4.out (by have := Z264.out; have := Z264.out; omega) (by rw [Z264.out]; exact infoNdP) Z1.out ?_; intro w5 b' g'; rw [splice_all _ _ (by have := Z264.out; have := Z264.out; omega)] at b'; have F5 := Lib.hid b'; have W5 := Lib.hid (W4.out.grown g' W4.out.size (fun i hi => by have := Option.some.inj hi; omega)); clear b' g'))
      refine bodyPost_ret (results_mid2 rfl _ _ (w.heap.size + 1) Z0 _ rfl F5.out.range Tryz.underlying51 rfl (by rw [Z264.out]; exact infoNdP)) rfl ?_
      exact ⟨by rw [HPE.out, HZ0.out]; rfl, W5.out⟩
    | true =>
      obtain ⟨hg, hgc⟩ := HOKY.out rfl
      subst hg
      have HGCE := Lib.hid hgc
      clear hgc HOKY HOKN
      cases NZ with
      | false =>
        have HPE := Lib.hid (show PR = (ND.zn, 40) by rw [HPR.out]; rfl)
        clear HPR
        go_wp2_with (first
          | (go_at_call 47; refine (HNO.out _ O4.out).mono ?_; rintro e w6 ⟨rfl, rfl⟩)
          | ((with_reducible show wpList _ _ _ (Oper.mk (some 33) (.build _ _) _ _ _ _ :: _) _ _); refine wpList_wanted rfl (.agg Z0.toArray) (ex_build0 rfl hbz) ?_)
          | ((with_reducible show wpList _ _ _ (Oper.mk _ (.store _ (.tmp 4) (.tmp 33)) _ _ _ _ :: _) _ _); refine wpList_store_blk rfl 51 (.tmp 4) (.tmp 33) rfl (w.heap.size + 1) 0 Z0 rfl rfl 51 Z0 N4.out (by have := Z264.out; have := Z264.out; omega) (by rw [Z264.out]; exact infoNdP) Z1.out ?_; intro w5 b' g'; rw [splice_all _ _ (by have := Z264.out; have := Z264.out; omega)] at b'; have F5 := Lib.hid b'; have W5 := Lib.hid (W4.out.grown g' W4.out.size (fun i hi => by have := Option.some.inj hi; omega)); clear b' g'))
        refine bodyPost_ret (results_mid2 rfl _ _ (w.heap.size + 1) Z0 _ rfl F5.out.range Tryz.underlying51 rfl (by rw [Z264.out]; exact infoNdP)) rfl ?_
        exact ⟨by rw [HPE.out, HZ0.out]; rfl, W5.out⟩
      | true =>
        have HPE := Lib.hid (show PR = (ND.reads (RB.take 288), 0) by rw [HPR.out]; rfl)
        clear HPR
        go_wp2_with (first
          | (go_at_call 47; refine (HNO.out _ O4.out).mono ?_; rintro e w6 ⟨rfl, rfl⟩)
          | ((with_reducible show wpList _ _ _ (Oper.mk _ (.load _ (.tmp 8)) _ _ _ _ :: _) _ _); refine wpList_load_mid rfl 51 (.tmp 8) rfl xb 0 rfl GC _ X4.out.range Tryz.underlying51 rfl (by rw [G264.out]; exact infoNdP) ?_)
          | ((with_reducible show wpList _ _ _ (Oper.mk _ (.store _ (.tmp 4) (.tmp 34)) _ _ _ _ :: _) _ _); refine wpList_store_blk rfl 51 (.tmp 4) (.tmp 34) rfl (w.heap.size + 1) 0 GC rfl rfl 51 Z0 N4.out (by have := G264.out; have := Z264.out; omega) (by rw [G264.out]; exact infoNdP) GC1.out ?_; intro w5 b' g'; rw [splice_all _ _ (by have := G264.out; have := Z264.out; omega)] at b'; have F5 := Lib.hid b'; have W5 := Lib.hid (W4.out.grown g' W4.out.size (fun i hi => by have := Option.some.inj hi; omega)); clear b' g'))
        refine bodyPost_ret (results_mid2 rfl _ _ (w.heap.size + 1) GC _ rfl F5.out.range Tryz.underlying51 rfl (by rw [G264.out]; exact infoNdP)) rfl ?_
        exact ⟨by rw [HPE.out, HGCE.out]; rfl, W5.out⟩
  . have hEb : (E == 0) = false := by rw [beq_eq_false_iff_ne]; exact hE0
    have HPE := Lib.hid (show PR = (ND.zn, E) from HNN.out hE0)
    clear HNN HNS HSZ
    go_enter Tryz.func15, Tryz.ntmps15
    go_upto_region 1 with fail
    rw [<- hw1]
    clear hw1
    go_wp2_with (first
      | ((with_reducible show wpList _ _ _ (Oper.mk _ (.load _ (.tmp 3)) _ _ _ _ :: _) _ _); refine wpList_load_mid rfl 49 (.tmp 3) rfl w.heap.size 0 rfl RC _ R1.out.range Tryz.underlying49 rfl (by rw [RC33.out]; exact infoRfQ) ?_)
      | (go_at_call 42; (with_reducible refine HRD.out.mono ?_); rintro e w2 ⟨y, rfl, oy, b2⟩; obtain ⟨ya, yc, rfl, _⟩ := oy.rd.shape; have W4 := Lib.hid (W1.out.on b2); have N4 := Lib.hid (N1.out.below b2 N1.out.lt); clear oy b2)
      | ((with_reducible show wpList _ _ _ (Oper.mk (some 17) (.build _ _) _ _ _ _ :: _) _ _); refine wpList_wanted rfl (.agg Z0.toArray) (ex_build0 rfl hbz) ?_)
      | ((with_reducible show wpList _ _ _ (Oper.mk _ (.store _ (.tmp 4) (.tmp 17)) _ _ _ _ :: _) _ _); refine wpList_store_blk rfl 51 (.tmp 4) (.tmp 17) rfl (w.heap.size + 1) 0 Z0 rfl rfl 51 Z0 N4.out (by have := Z264.out; have := Z264.out; omega) (by rw [Z264.out]; exact infoNdP) Z1.out ?_; intro w5 b' g'; rw [splice_all _ _ (by have := Z264.out; have := Z264.out; omega)] at b'; have F5 := Lib.hid b'; have W5 := Lib.hid (W4.out.grown g' W4.out.size (fun i hi => by have := Option.some.inj hi; omega)); clear b' g'))
    refine bodyPost_ret (results_mid2 rfl _ _ (w.heap.size + 1) Z0 _ rfl F5.out.range Tryz.underlying51 rfl (by rw [Z264.out]; exact infoNdP)) rfl ?_
    exact ⟨by rw [HPE.out, HZ0.out]; rfl, W5.out⟩
end Go.Proofs.YtjalknpeecgllaaGreatDoor
end

section
namespace Go.Proofs.YtjalknpeecgllaaGreatDoor
open Go.ChangeShapes Go.WideShapes Go.ChangeAt Go.RowKit
open RT XM AM SM
theorem SP.data_none {p : SP.Sp} {S : DM.DS} {r : Pg} (h : (SP.seen p S r (SP.leaf p r.at_ (SP.raw p S r).1)).2 ≠ 0) : SP.data p S r = ([], (SP.seen p S r (SP.leaf p r.at_ (SP.raw p S r).1)).2) := by
  unfold SP.seen at h ⊢
  unfold SP.data
  by_cases c : (SP.raw p S r).2 ≠ 0
  . rw [if_pos c, if_pos c]
  . rw [if_neg c] at h ⊢
    rw [if_neg c]
    by_cases k : SP.leaf p r.at_ (SP.raw p S r).1 ≠ r.sum
    . rw [if_pos k, if_pos k]
    . rw [if_neg k] at h; exact absurd rfl h
theorem SP.data_some {p : SP.Sp} (hp : SP.Ok p) {S : DM.DS} {r : Pg} (h : (SP.seen p S r (SP.leaf p r.at_ (SP.raw p S r).1)).2 = 0) : (1 <= r.at_ /\ r.at_ <= 65536) /\ (SP.seen p S r (SP.leaf p r.at_ (SP.raw p S r).1)).1.length = SP.size p /\ SP.data p S r = (SP.opened p (r.at_ - 1) (SP.seen p S r (SP.leaf p r.at_ (SP.raw p S r).1)).1, 0) := by
  unfold SP.seen at h ⊢
  by_cases c : (SP.raw p S r).2 ≠ 0
  . rw [if_pos c] at h; exact absurd h c
  . rw [if_neg c] at h ⊢
    by_cases k : SP.leaf p r.at_ (SP.raw p S r).1 ≠ r.sum
    . rw [if_pos k] at h; exact absurd h (by decide)
    . rw [if_neg k]
      refine ⟨SP.raw_at (Classical.not_not.1 c), SP.raw_len hp (Classical.not_not.1 c), ?_⟩
      unfold SP.data
      rw [if_neg c, if_neg k]
theorem xerr_ok (p : SP.Sp) (hp : SP.Ok p) : xerr (SP.size p) = 0 := by
  unfold xerr SP.size
  have := hp.per
  rw [if_neg (by omega)]
set_option maxRecDepth 100000 in
set_option maxHeartbeats 4000000 in
theorem spcdata_any {Z : Nat -> Prop} {s d : Nat} {p : SP.Sp} (hp : SP.Ok p) (B : Nat) (A : Nat -> Prop) (S : DM.DS) (w : World) (hd : Dev B A w d S) (ht : Tame S) (h : Spa Z w s d p) (r : Pg) (hr : Pok r) (tx : TabX w) (tu : TabU w) (tp : TabP w) : Calls Tryz.prog 14 #[.pointer (some ⟨s, 0, none⟩), .agg (pc r).toArray] w fun e w' => ∃ y, e = .returned (.tuple #[y, .int .i64 (SP.data p S r).2]) /\ Rd w' y (SP.data p S r).1 /\ NewB w y /\ Below w.heap.size w w' := by
  have HA0 := Lib.hid (show (pc r)[0]? = some (.int .u32 (r.at_ : Int)) from rfl)
  have RC33 := Lib.hid (pc_len hr)
  obtain ⟨w1, hw1⟩ : ∃ x, x = w.alloc (.cells (pc r).toArray 49) := ⟨_, rfl⟩
  have W1 := Lib.hid (show Below w.heap.size w w1 by rw [hw1]; exact (Below.refl w.heap.size w).alloc (Nat.le_refl _) (.cells (pc r).toArray 49))
  have R1 := Lib.hid (show Blk w1 w.heap.size 49 (pc r) by rw [hw1]; exact Blk.new w 49 (pc r) _ rfl)
  have HRD := Lib.hid (fun W b0 b1 (hW : Below w1.heap.size w1 W) (g0 : Blk W b0 28 [.pointer (some ⟨s, 0, none⟩)]) (g1 : Blk W b1 45 [.int .u32 (r.at_ : Int)]) => spcread_any hp B A S W (hd.below (W1.out.on hW)) ht (h.below (W1.out.on hW)) r hr 84 #[.pointer (some ⟨b0, 0, none⟩), .pointer (some ⟨b1, 0, none⟩)] (SP.leaf p r.at_ (SP.raw p S r).1) (mac_bytes _ _)
    (fun v W => by rw [show (#[v] ++ #[.pointer (some ⟨b0, 0, none⟩), .pointer (some ⟨b1, 0, none⟩)] : Array Value) = #[v, .pointer (some ⟨b0, 0, none⟩), .pointer (some ⟨b1, 0, none⟩)] by simp]; go_simp)
    fun _ _ V v hV hv => by
      rw [show (#[v] ++ #[.pointer (some ⟨b0, 0, none⟩), .pointer (some ⟨b1, 0, none⟩)] : Array Value) = #[v, .pointer (some ⟨b0, 0, none⟩), .pointer (some ⟨b1, 0, none⟩)] by simp]
      exact spleaf1_any hp r.at_ hr.1 _ v b0 b1 V (h.below ((W1.out.on hW).on hV)) (g0.below hV g0.lt) (g1.below hV g1.lt) hv (tp.below ((W1.out.on hW).on hV)))
  have HDN := Lib.hid (@SP.data_none p S r)
  have HDS := Lib.hid (@SP.data_some p hp S r)
  obtain ⟨PR, hPR⟩ : ∃ x, x = SP.data p S r := ⟨_, rfl⟩
  rw [<- hPR] at HDN HDS ⊢
  obtain ⟨RB, hRB⟩ : ∃ x, x = (SP.seen p S r (SP.leaf p r.at_ (SP.raw p S r).1)).1 := ⟨_, rfl⟩
  obtain ⟨E1, hE⟩ : ∃ x, x = (SP.seen p S r (SP.leaf p r.at_ (SP.raw p S r).1)).2 := ⟨_, rfl⟩
  rw [<- hRB] at HRD HDS
  rw [<- hE] at HRD HDN HDS
  obtain ⟨x, _, _, c3, hx⟩ := h.cells
  have HX3 := Lib.hid (fun W (hW : Below w.heap.size w W) => (show W.cell? ⟨s, 3, none⟩ = some (.pointer (some ⟨x, 0, none⟩)) from (hW.cell (p := ⟨s, 3, none⟩) h.lt).trans c3))
  have HSE0 := Lib.hid (fun W (hW : Below w.heap.size w W) m (hm : m <= 65535) => spsector_any hp (h.below hW) m hm)
  have HOP0 := Lib.hid (fun W v (hW : Below w.heap.size w W) (hv : Rd W v RB) m (hm : m <= 65535) => xt_openN x p.one p.two (SP.sect p m) (SP.sect_lt hp hm) v RB W hv (hx.below hW) (tx.below hW) (tu.below hW))
  have HXE := Lib.hid (xerr_ok p hp)
  obtain ⟨at_, hat⟩ : ∃ x, x = r.at_ := ⟨_, rfl⟩
  obtain ⟨RC, hRC⟩ : ∃ x, x = pc r := ⟨_, rfl⟩
  rw [<- hRC] at HRD R1 RC33 HA0 hw1 ⊢
  rw [<- hat] at HRD HDS HA0
  clear hRB hE hRC hp hd ht h hr tp tx tu hPR hat c3 hx
  go_enter Tryz.func14, Tryz.ntmps14
  go_upto_region 1 with fail
  rw [<- hw1]
  clear hw1
  refine wp_region_l (by kernel_rfl) 11 (by decide) (by kernel_rfl) (by kernel_rfl) (by kernel_rfl) [.val (.pointer (some ⟨s, 0, none⟩)), .val (.agg RC.toArray), .val (.pointer (some ⟨s, 0, none⟩)), .val (.pointer (some ⟨w.heap.size, 0, none⟩)), .val (.int .u32 (at_ : Int)), ⟨fun v W => ∃ b0 b1, v = .func (.func 84) #[] #[.pointer (some ⟨b0, 0, none⟩), .pointer (some ⟨b1, 0, none⟩)] /\ Blk W b0 28 [.pointer (some ⟨s, 0, none⟩)] /\ Blk W b1 45 [.int .u32 (at_ : Int)], fun h k => by obtain ⟨b0, b1, e, g0, g1⟩ := h; exact ⟨b0, b1, e, g0.below k g0.lt, g1.below k g1.lt⟩⟩, ⟨fun v W => ∃ y, v = .tuple #[y, .int .i64 E1] /\ Own W w.heap.size y RB, fun h k => by obtain ⟨y, e, g⟩ := h; exact ⟨y, e, g.below k⟩⟩, ⟨fun v W => ∃ y, v = .tuple #[y, .int .i64 E1] /\ Own W w.heap.size y RB, fun h k => by obtain ⟨y, e, g⟩ := h; exact ⟨y, e, g.below k⟩⟩, ⟨fun v W => Own W w.heap.size v RB, fun h k => h.below k⟩, .val (.int .i64 E1), ⟨fun v W => Own W w.heap.size v RB, fun h k => h.below k⟩] ?_ ?_
  . refine ⟨?_, ?_, ?_, ?_, ?_, ?_, ?_, ?_, ?_, ?_, ?_, trivial⟩
    . intro a w' hF hB hd
      have e0 : a.eval (.tmp 0) = .pointer (some ⟨s, 0, none⟩) := hF 0 (by decide +kernel)
      exact doesL_val rfl (ex_move rfl e0) rfl
    . intro a w' hF hB hd
      have e3 : a.eval (.tmp 3) = .pointer (some ⟨w.heap.size, 0, none⟩) := hF 3 (by decide +kernel)
      exact doesL_val rfl (ex_load_part 49 (.tmp 3) rfl w.heap.size 0 e3 RC _ ((R1.out.below hB R1.out.lt).range) Tryz.underlying49 rfl (by rw [RC33.out]; exact infoRfQ)) rfl
    . intro a w' hF hB hd
      have e0 : a.eval (.tmp 0) = .pointer (some ⟨s, 0, none⟩) := hF 0 (by decide +kernel)
      exact doesL_val rfl (ex_move rfl e0) rfl
    . intro a w' hF hB hd
      have e3 : a.eval (.tmp 3) = .pointer (some ⟨w.heap.size, 0, none⟩) := hF 3 (by decide +kernel)
      exact doesL_val rfl (ex_fieldAddr rfl e3 (by go_simp)) rfl
    . intro a w' hF hB hd
      have e12 : a.eval (.tmp 12) = .pointer (some ⟨w.heap.size, 0, none⟩) := hd 3 (by decide +kernel)
      have cc := (R1.out.below hB R1.out.lt).cell 0 _ HA0.out
      exact doesL_val rfl (v := .int .u32 (at_ : Int)) (by unfold execOp; simp only [e12]; go_simp) rfl
    . intro a w' hF hB hd
      have e11 : a.eval (.tmp 11) = .pointer (some ⟨s, 0, none⟩) := hd 2 (by decide +kernel)
      have e13 : a.eval (.tmp 13) = .int .u32 (at_ : Int) := hd 4 (by decide +kernel)
      exact doesL_call rfl (ex_call (vs := #[.pointer (some ⟨s, 0, none⟩), .int .u32 (at_ : Int)]) rfl (by simp only [List.map_toArray, List.map_cons, List.map_nil, e11, e13]) (by go_simp)) ((spleaf_any (some ⟨s, 0, none⟩) at_ w').mono fun e w3 hh => by obtain ⟨b0, b1, he, _, _, g0, g1, hb⟩ := hh; exact ⟨_, he, ⟨b0, b1, rfl, g0, g1⟩, hb⟩)
    . intro a w' hF hB hd
      have e9 : a.eval (.tmp 9) = .pointer (some ⟨s, 0, none⟩) := hd 0 (by decide +kernel)
      have e10 : a.eval (.tmp 10) = .agg RC.toArray := hd 1 (by decide +kernel)
      obtain ⟨b0, b1, e14, g0, g1⟩ : ∃ b0 b1, a.eval (.tmp 14) = .func (.func 84) #[] #[.pointer (some ⟨b0, 0, none⟩), .pointer (some ⟨b1, 0, none⟩)] /\ Blk w' b0 28 [.pointer (some ⟨s, 0, none⟩)] /\ Blk w' b1 45 [.int .u32 (at_ : Int)] := hd 5 (by decide +kernel)
      exact doesL_call rfl (ex_call (vs := #[.pointer (some ⟨s, 0, none⟩), .agg RC.toArray, .func (.func 84) #[] #[.pointer (some ⟨b0, 0, none⟩), .pointer (some ⟨b1, 0, none⟩)]]) rfl (by simp only [List.map_toArray, List.map_cons, List.map_nil, e9, e10, e14]) (by go_simp)) ((HRD.out w' b0 b1 hB g0 g1).mono fun e w3 hh => by obtain ⟨y, he, ho, hb⟩ := hh; exact ⟨_, he, ⟨y, rfl, ho.lower (Nat.le_trans (Nat.le_of_lt R1.out.lt) hB.size)⟩, hb⟩)
    . intro a w' hF hB hd
      obtain ⟨y, e15, hy⟩ : ∃ y, a.eval (.tmp 15) = .tuple #[y, .int .i64 E1] /\ Own w' w.heap.size y RB := hd 6 (by decide +kernel)
      exact doesL_val rfl (ex_move rfl e15) ⟨y, rfl, hy⟩
    . intro a w' hF hB hd
      obtain ⟨y, e8, hy⟩ : ∃ y, a.eval (.tmp 8) = .tuple #[y, .int .i64 E1] /\ Own w' w.heap.size y RB := hd 7 (by decide +kernel)
      exact doesL_val rfl (v := y) (by unfold execOp; simp only [e8]; rfl) hy
    . intro a w' hF hB hd
      obtain ⟨y, e8, hy⟩ : ∃ y, a.eval (.tmp 8) = .tuple #[y, .int .i64 E1] /\ Own w' w.heap.size y RB := hd 7 (by decide +kernel)
      exact doesL_val rfl (v := .int .i64 E1) (by unfold execOp; simp only [e8]; rfl) rfl
    . intro a w' hF hB hd
      have e16 : Own w' w.heap.size (a.eval (.tmp 16)) RB := hd 8 (by decide +kernel)
      exact doesL_val rfl (ex_assign rfl rfl) e16
  . intro vs w4 hB hv
    have e17 : vs 9 = .int .i64 E1 := hv 9 (by decide)
    have o6 : Own w4 w.heap.size (vs 10) RB := hv 10 (by decide)
    obtain ⟨ya, yc, e6, _⟩ := o6.rd.shape
    rw [e6] at o6
    have O4 := Lib.hid o6
    simp only [List.take_succ_cons, List.take_zero, List.drop_succ_cons, List.drop_zero, putOps, Act.put, List.setIfInBounds_toArray, List.set_cons_zero, List.set_cons_succ, e17, e6]
    have W4 := Lib.hid (W1.out.on hB)
    have R4 := Lib.hid (R1.out.below hB R1.out.lt)
    clear hv e17 e6 o6 hB HRD
    generalize vs 0 = z0
    generalize vs 1 = z1
    generalize vs 2 = z2
    generalize vs 3 = z3
    generalize vs 4 = z4
    generalize vs 5 = z5
    generalize vs 6 = z6
    generalize vs 7 = z7
    generalize vs 8 = z8
    by_cases hE : E1 = 0
    . subst hE
      obtain ⟨hat, hlen, hpr⟩ := HDS.out rfl
      obtain ⟨m, hm⟩ : ∃ m, at_ = m + 1 := ⟨at_ - 1, by omega⟩
      have hm5 : m <= 65535 := by omega
      have HWM := Lib.hid (show IntKind.u32.wrap ((at_ : Int) - 1) = (m : Int) by rw [IntKind.wrap_u32]; omega)
      have HSE := Lib.hid (fun W hW => HSE0.out W hW m hm5)
      have HOP := Lib.hid (fun W v hW hv => HOP0.out W v hW hv m hm5)
      rw [show at_ - 1 = m by omega] at hpr
      rw [hlen, HXE.out, if_pos rfl] at HOP
      obtain ⟨DB, hDB⟩ : ∃ x, x = xopen (keys p.one) (keys p.two) (SP.sect p m) RB := ⟨_, rfl⟩
      have HPE := Lib.hid (show PR = (DB, 0) by rw [hpr, hDB]; rfl)
      obtain ⟨Q, hQ⟩ : ∃ x, x = SP.sect p m := ⟨_, rfl⟩
      rw [<- hDB] at HOP
      rw [<- hQ] at HOP HSE
      clear HDS HDN HSE0 HOP0 hat hlen hpr hm hm5 hDB hQ HXE
      go_upto_region 4 with fail
      refine wp_region_l (by kernel_rfl) 14 (by decide) (by kernel_rfl) (by kernel_rfl) (by kernel_rfl) [.val (.pointer (some ⟨s, 0, none⟩)), .val (.pointer (some ⟨s, 0, none⟩)), .val (.pointer (some ⟨s, 3, none⟩)), .val (.pointer (some ⟨x, 0, none⟩)), .val (.pointer (some ⟨s, 0, none⟩)), .val (.pointer (some ⟨w.heap.size, 0, none⟩)), .val (.int .u32 (at_ : Int)), .val (.int .u32 (m : Int)), .val (.int .u64 (Q : Int)), .val (.slice ya RB.length yc), ⟨fun v W => ∃ y, v = .tuple #[y, .int .i64 0] /\ Rd W y DB /\ NewB w y, fun h k => by obtain ⟨y, e, g, n⟩ := h; exact ⟨y, e, g.below k, n⟩⟩, ⟨fun v W => Rd W v DB /\ NewB w v, fun h k => ⟨h.1.below k, h.2⟩⟩, .val (.int .i64 0), ⟨fun v W => Rd W v DB /\ NewB w v, fun h k => ⟨h.1.below k, h.2⟩⟩] ?_ ?_
      . refine ⟨?_, ?_, ?_, ?_, ?_, ?_, ?_, ?_, ?_, ?_, ?_, ?_, ?_, ?_, trivial⟩
        . intro a w' hF hB hd
          have e0 : a.eval (.tmp 0) = .pointer (some ⟨s, 0, none⟩) := hF 0 (by decide +kernel)
          exact doesL_val rfl (ex_move rfl e0) rfl
        . intro a w' hF hB hd
          have e21 : a.eval (.tmp 21) = .pointer (some ⟨s, 0, none⟩) := hd 0 (by decide +kernel)
          exact doesL_val rfl (ex_nilCheck rfl e21) rfl
        . intro a w' hF hB hd
          have e22 : a.eval (.tmp 22) = .pointer (some ⟨s, 0, none⟩) := hd 1 (by decide +kernel)
          exact doesL_val rfl (ex_fieldAddr rfl e22 (by go_simp)) rfl
        . intro a w' hF hB hd
          have e23 : a.eval (.tmp 23) = .pointer (some ⟨s, 3, none⟩) := hd 2 (by decide +kernel)
          have cc := HX3.out w' (W4.out.on hB)
          exact doesL_val rfl (v := .pointer (some ⟨x, 0, none⟩)) (by unfold execOp; simp only [e23]; go_simp) rfl
        . intro a w' hF hB hd
          have e0 : a.eval (.tmp 0) = .pointer (some ⟨s, 0, none⟩) := hF 0 (by decide +kernel)
          exact doesL_val rfl (ex_move rfl e0) rfl
        . intro a w' hF hB hd
          have e3 : a.eval (.tmp 3) = .pointer (some ⟨w.heap.size, 0, none⟩) := hF 3 (by decide +kernel)
          exact doesL_val rfl (ex_fieldAddr rfl e3 (by go_simp)) rfl
        . intro a w' hF hB hd
          have e26 : a.eval (.tmp 26) = .pointer (some ⟨w.heap.size, 0, none⟩) := hd 5 (by decide +kernel)
          have cc := (R4.out.below hB R4.out.lt).cell 0 _ HA0.out
          exact doesL_val rfl (v := .int .u32 (at_ : Int)) (by unfold execOp; simp only [e26]; go_simp) rfl
        . intro a w' hF hB hd
          have e27 : a.eval (.tmp 27) = .int .u32 (at_ : Int) := hd 6 (by decide +kernel)
          exact doesL_val rfl (ex_binOp rfl e27 rfl (by go_simp) (by have hwm := HWM.out; go_simp)) rfl
        . intro a w' hF hB hd
          have e25 : a.eval (.tmp 25) = .pointer (some ⟨s, 0, none⟩) := hd 4 (by decide +kernel)
          have e28 : a.eval (.tmp 28) = .int .u32 (m : Int) := hd 7 (by decide +kernel)
          exact doesL_call rfl (ex_call (vs := #[.pointer (some ⟨s, 0, none⟩), .int .u32 (m : Int)]) rfl (by simp only [List.map_toArray, List.map_cons, List.map_nil, e25, e28]) (by go_simp)) ((HSE.out w' (W4.out.on hB)).mono fun e w3 hh => ⟨_, hh.1, rfl, hh.2⟩)
        . intro a w' hF hB hd
          have e6 : a.eval (.tmp 6) = .slice ya RB.length yc := hF 6 (by decide +kernel)
          exact doesL_val rfl (ex_move rfl e6) rfl
        . intro a w' hF hB hd
          have e24 : a.eval (.tmp 24) = .pointer (some ⟨x, 0, none⟩) := hd 3 (by decide +kernel)
          have e29 : a.eval (.tmp 29) = .int .u64 (Q : Int) := hd 8 (by decide +kernel)
          have e30 : a.eval (.tmp 30) = .slice ya RB.length yc := hd 9 (by decide +kernel)
          exact doesL_call rfl (ex_call (vs := #[.pointer (some ⟨x, 0, none⟩), .int .u64 (Q : Int), .slice ya RB.length yc]) rfl (by simp only [List.map_toArray, List.map_cons, List.map_nil, e24, e29, e30]) (by go_simp)) ((HOP.out w' _ (W4.out.on hB) (O4.out.rd.below hB)).mono fun e w3 hh => by obtain ⟨y, he, hr, hn, hb⟩ := hh; exact ⟨_, he, ⟨y, rfl, hr, fun g hg => Nat.le_trans (W4.out.on hB).size (hn g hg)⟩, hb⟩)
        . intro a w' hF hB hd
          obtain ⟨y, e31, hy, ny⟩ : ∃ y, a.eval (.tmp 31) = .tuple #[y, .int .i64 0] /\ Rd w' y DB /\ NewB w y := hd 10 (by decide +kernel)
          exact doesL_val rfl (v := y) (by unfold execOp; simp only [e31]; rfl) ⟨hy, ny⟩
        . intro a w' hF hB hd
          obtain ⟨y, e31, hy, ny⟩ : ∃ y, a.eval (.tmp 31) = .tuple #[y, .int .i64 0] /\ Rd w' y DB /\ NewB w y := hd 10 (by decide +kernel)
          exact doesL_val rfl (v := .int .i64 0) (by unfold execOp; simp only [e31]; rfl) rfl
        . intro a w' hF hB hd
          have e32 : Rd w' (a.eval (.tmp 32)) DB /\ NewB w (a.eval (.tmp 32)) := hd 11 (by decide +kernel)
          exact doesL_val rfl (ex_assign rfl rfl) e32
      . intro vs w5 hB hv
        have e33 : vs 12 = .int .i64 0 := hv 12 (by decide)
        obtain ⟨r4, n4⟩ : Rd w5 (vs 13) DB /\ NewB w (vs 13) := hv 13 (by decide)
        obtain ⟨da, dc, e4, _⟩ := r4.shape
        rw [e4] at r4 n4
        have D5 := Lib.hid r4
        have N5 := Lib.hid n4
        simp only [List.take_succ_cons, List.take_zero, List.drop_succ_cons, List.drop_zero, putOps, Act.put, List.setIfInBounds_toArray, List.set_cons_zero, List.set_cons_succ, e33, e4]
        have W5 := Lib.hid (W4.out.on hB)
        clear hv e33 e4 r4 n4 hB
        generalize vs 0 = y0
        generalize vs 1 = y1
        generalize vs 2 = y2
        generalize vs 3 = y3
        generalize vs 4 = y4
        generalize vs 5 = y5
        generalize vs 6 = y6
        generalize vs 7 = y7
        generalize vs 8 = y8
        generalize vs 9 = y9
        generalize vs 10 = y10
        generalize vs 11 = y11
        go_wp2_with fail
        go_ret2
        exact ⟨_, by rw [HPE.out]; rfl, by rw [HPE.out]; exact D5.out, N5.out, W5.out⟩
    . have hEb : (E1 == 0) = false := by rw [beq_eq_false_iff_ne]; exact hE
      have HPE := Lib.hid (show PR = ([], E1) from HDN.out hE)
      clear HDS HDN HSE0 HOP0 HXE
      go_wp2_with fail
      go_ret2
      exact ⟨.slice none 0 0, by rw [HPE.out]; rfl, by rw [HPE.out]; exact Rd.none_ _, NewB.none_ _, W4.out⟩
end Go.Proofs.YtjalknpeecgllaaGreatDoor
end

section
namespace Go.Proofs.YtjalknpeecgllaaGreatDoor
open Go.ChangeShapes Go.WideShapes Go.ChangeAt Go.RowKit
open RT XM AM SM
theorem SP.pput_ok {p : SP.Sp} {S : DM.DS} {n : Nat} (hn : n < 4294967296) {me : Int} {mb fm : List Nat} (hf : Bytes 32 fm) : Pok (SP.pput p S n me mb fm).2.1 := by
  unfold SP.pput
  by_cases h1 : 65535 < n
  . rw [if_pos h1]; exact ND.zp_ok
  . rw [if_neg h1]
    by_cases h2 : me ≠ 0 \/ mb.length ≠ SP.size p
    . rw [if_pos h2]; exact ND.zp_ok
    . rw [if_neg h2]
      unfold SP.put
      rw [if_neg h1]
      split
      . exact ⟨by show n + 1 < 4294967296; omega, hf⟩
      . exact ND.zp_ok
theorem SP.pput_made {p : SP.Sp} {S : DM.DS} {n : Nat} {mb fm : List Nat} (h : mb.length = SP.size p) : SP.pput p S n 0 mb fm = SP.put p S n mb fm := by
  unfold SP.pput
  by_cases h1 : 65535 < n
  . rw [if_pos h1]; unfold SP.put; rw [if_pos h1]
  . rw [if_neg h1, if_neg (fun q => q.elim (fun z => z rfl) (fun z => z h))]
theorem SP.pput_none {p : SP.Sp} {S : DM.DS} {n : Nat} {me : Int} {mb fm : List Nat} (h : me ≠ 0 \/ mb.length ≠ SP.size p) : SP.pput p S n me mb fm = (S, ND.zp, 2) := by
  unfold SP.pput
  rw [if_pos h]
  split <;> rfl
theorem SP.sealed_lenQ {s : SP.Sp} (hs : SP.Ok s) (n : Nat) {b : List Nat} (hb : b.length = SP.size s) : (SP.sealed s n b).length = SP.size s := by
  unfold SP.sealed xseal
  rw [sealTo_len (keys_bytes hs.one) (keys_bytes hs.two), hb]
  unfold SP.size
  omega
theorem SP.pput_page (p : SP.Sp) (S : DM.DS) (n : Nat) (b : List Nat) : SP.pput p S n (SP.padE p b) (SP.padL p b) (SP.psum (SP.padL p b)) = SP.putPage p S n b := by
  unfold SP.padE SP.padL SP.putPage
  by_cases c : b.length <= SP.size p
  . rw [if_pos c, if_pos c, if_neg (Nat.not_lt.2 c)]
    exact SP.pput_made (by rw [padTo_len]; omega)
  . rw [if_neg c, if_neg c, if_pos (Nat.lt_of_not_le c)]
    exact SP.pput_none (.inl (by decide))
theorem SP.pput_node {p : SP.Sp} (hp : SP.Ok p) (S : DM.DS) (n : Nat) {x : List Pg} (hx : ND.Nok x) : SP.pput p S n (SP.padE p (ones x)) (SP.padL p (ones x)) (SP.nsum (SP.padL p (ones x))) = SP.putNode p S n x := by
  have hl : (ones x).length = 288 := ND.ones_len8 hx
  have c : (ones x).length <= SP.size p := by have := SP.size_pos hp; omega
  unfold SP.padE SP.padL SP.putNode SP.nodeBytes
  rw [if_pos c, if_pos c]
  exact SP.pput_made (by rw [padTo_len]; omega)
theorem SP.pput_data {p : SP.Sp} (hp : SP.Ok p) (S : DM.DS) (n m : Nat) (hm : n <= 65535 -> m = n + 1) (b : List Nat) : SP.pput p S n (xerr b.length) (SP.sealL p n b) (SP.leaf p m (SP.sealL p n b)) = SP.putData p S n b := by
  by_cases h1 : 65535 < n
  . unfold SP.pput SP.putData
    rw [if_pos h1, if_pos (.inl h1)]
  rw [hm (by omega)]
  by_cases h2 : b.length = SP.size p
  . have hx : xerr b.length = 0 := by rw [h2]; exact xerr_ok p hp
    have hs : SP.sealL p n b = SP.sealed p n b := by unfold SP.sealL; rw [if_pos hx]
    rw [hs, hx, SP.pput_made (SP.sealed_lenQ hp n h2)]
    unfold SP.putData
    rw [if_neg (by omega)]
  . have hr : SP.putData p S n b = (S, ND.zp, 2) := by unfold SP.putData; rw [if_pos (.inr h2)]
    rw [hr]
    by_cases hx : xerr b.length = 0
    . have hs : SP.sealL p n b = SP.sealed p n b := by unfold SP.sealL; rw [if_pos hx]
      have hl : (SP.sealed p n b).length = b.length := by
        unfold SP.sealed xseal
        rw [sealTo_len (keys_bytes hp.one) (keys_bytes hp.two)]
        unfold xerr at hx
        split at hx
        . exact absurd hx (by decide)
        . omega
      exact SP.pput_none (.inr (by rw [hs, hl]; exact h2))
    . exact SP.pput_none (.inl hx)
set_option maxRecDepth 100000 in
set_option maxHeartbeats 4000000 in
theorem spcputpage_any {s d : Nat} {p : SP.Sp} (hp : SP.Ok p) (B : Nat) (A : Nat -> Prop) (S : DM.DS) (w : World) (hd : Dev B A w d S) (ht : Tame S) (h : Spa (fun k => k < B \/ A k) w s d p) (tt : PTabs (fun k => k < B \/ A k) w) (n : Nat) (hn32 : n < 4294967296) (b : List Nat) (v : Value) (hv : Rd w v b) : Calls Tryz.prog 19 #[.pointer (some ⟨s, 0, none⟩), .int .u32 (n : Int), v] w fun e w' => e = .returned (.tuple #[.agg (pc (SP.putPage p S n b).2.1).toArray, .int .i64 (SP.putPage p S n b).2.2]) /\ Dev B A w' d (SP.putPage p S n b).1 /\ Kept B A w w' := by
  obtain ⟨ba, bc, rfl, _⟩ := hv.shape
  have HFR := Lib.hid (fun k (hk : k < B \/ A k) => (show k ≠ w.heap.size from fun e => by have := hd.old k hk; omega))
  obtain ⟨RZ, hRZ⟩ : ∃ x, x = pc ND.zp := ⟨_, rfl⟩
  have hz : ∀ w, (zeroValue 49).run Tryz.prog w = .ok (.agg RZ.toArray) w := by rw [hRZ]; exact zeroRfP
  have RZ33 := Lib.hid (show RZ.length = 33 by rw [hRZ]; exact pc_len ND.zp_ok)
  obtain ⟨w1, hw1⟩ : ∃ x, x = w.alloc (.cells RZ.toArray 49) := ⟨_, rfl⟩
  have W1 := Lib.hid (show Below w.heap.size w w1 by rw [hw1]; exact (Below.refl w.heap.size w).alloc (Nat.le_refl _) (.cells RZ.toArray 49))
  have R1 := Lib.hid (show Blk w1 w.heap.size 49 RZ by rw [hw1]; exact Blk.new w 49 RZ _ rfl)
  have HPU := Lib.hid (fun W (ba : Option Addr) (bl bc : Nat) b0 b1 (hW : Below w.heap.size w W) (g0 : Blk W b0 28 [.pointer (some ⟨s, 0, none⟩)]) (g1 : Blk W b1 46 [.slice ba bl bc]) (hv : Rd W (.slice ba bl bc) (b)) => spcput_any hp B (fun k => A k \/ (w.heap.size <= k /\ k < W.heap.size)) S W (hd.own hW) ht (h.below hW) n hn32 93 21 #[.pointer (some ⟨b1, 0, none⟩), .pointer (some ⟨b0, 0, none⟩)] #[] (SP.padE p (b)) (SP.padL p (b)) (SP.psum (SP.padL p (b))) (sha_bytes _)
    (fun V => by rw [show (#[] ++ #[.pointer (some ⟨b1, 0, none⟩), .pointer (some ⟨b0, 0, none⟩)] : Array Value) = #[.pointer (some ⟨b1, 0, none⟩), .pointer (some ⟨b0, 0, none⟩)] by simp]; go_simp) (fun v V => by rw [Array.append_empty]; go_simp)
    (fun _ V hV => by rw [show (#[] ++ #[.pointer (some ⟨b1, 0, none⟩), .pointer (some ⟨b0, 0, none⟩)] : Array Value) = #[.pointer (some ⟨b1, 0, none⟩), .pointer (some ⟨b0, 0, none⟩)] by simp]; exact sppadded1_any hp (b) ba bl bc b0 b1 V (h.below (hW.on hV)) (g0.below hV g0.lt) (g1.below hV g1.lt) (hv.below hV))
    (fun _ V v hK hr _ => by rw [Array.append_empty]; exact nppage_any _ v V hr ((tt.below hW).kept hK (fun i hi => hi.imp_right .inl)).p))
  have hok : Pok (SP.putPage p S n b).2.1 := by rw [<- SP.pput_page]; exact SP.pput_ok hn32 (sha_bytes _)
  rw [SP.pput_page] at HPU
  obtain ⟨S1, hS1⟩ : ∃ y, y = (SP.putPage p S n b).1 := ⟨_, rfl⟩
  obtain ⟨ev, hev⟩ : ∃ y, y = (SP.putPage p S n b).2.2 := ⟨_, rfl⟩
  have C33 := Lib.hid (show (pc (SP.putPage p S n b).2.1).length = 33 from pc_len hok)
  have C1 := Lib.hid (one_pg (SP.putPage p S n b).2.1)
  obtain ⟨C, hC⟩ : ∃ y, y = pc (SP.putPage p S n b).2.1 := ⟨_, rfl⟩
  rw [<- hS1, <- hev, <- hC] at HPU
  rw [<- hC] at C33 C1
  rw [<- hS1, <- hev, <- hC]
  have HV := Lib.hid hv
  obtain ⟨bl, hbl⟩ : ∃ x, x = b.length := ⟨_, rfl⟩
  have HPD := Lib.hid (sppadded_any (some ⟨s, 0, none⟩) ba bl bc w1)
  rw [<- hbl] at HV ⊢
  clear hS1 hev hC hok hRZ hp hd ht h tt hn32 hv hbl
  go_enter Tryz.func19, Tryz.ntmps19
  go_upto_region 1 with fail
  rw [<- hw1]
  clear hw1
  go_wp2_with (first
    | (go_at_call 51; (with_reducible refine HPD.out.mono ?_); rintro e w3 ⟨b0, b1, rfl, _, _, g0, g1, b3⟩; have G0 := Lib.hid g0; have G1 := Lib.hid g1; have W3 := Lib.hid (W1.out.on b3); have R3 := Lib.hid (R1.out.below b3 R1.out.lt); clear g0 g1 b3)
    | (go_at_call 50; refine (HPU.out _ _ _ _ b0 b1 W3.out G0.out G1.out (HV.out.below W3.out)).mono ?_; rintro e w4 ⟨rfl, d4, k4⟩; have D4 := Lib.hid d4; have K4 := Lib.hid k4; have R4 := Lib.hid (R3.out.kept k4 (.inr (.inr ⟨Nat.le_refl _, R3.out.lt⟩))); clear d4 k4)
    | ((with_reducible show wpList _ _ _ (Oper.mk _ (.store _ (.tmp 6) (.tmp 14)) _ _ _ _ :: _) _ _); refine wpList_store_blk rfl 49 (.tmp 6) (.tmp 14) rfl w.heap.size 0 C rfl rfl 49 RZ R4.out (by have := C33.out; have := RZ33.out; omega) (by rw [C33.out]; exact infoRfQ) C1.out ?_; intro w5 b' g'; rw [splice_all _ _ (by rw [C33.out, RZ33.out])] at b'; have U := Lib.hid b'; have GRU := Lib.hid g'; clear b' g'))
  refine bodyPost_ret (results_mid2 rfl _ _ w.heap.size C _ rfl U.out.range Tryz.underlying49 rfl (by rw [C33.out]; exact infoRfQ)) rfl ?_
  exact ⟨rfl, (D4.out.turn GRU.out (fun g e => .inr (by rw [<- Option.some.inj e]; exact ⟨Nat.le_refl _, R3.out.lt⟩))).less (fun _ q => .inl q), ((Kept.of_below W3.out).trans (K4.out.less (fun _ q => .inl q))).trans (Kept.of_grown GRU.out HFR.out)⟩
set_option maxRecDepth 100000 in
set_option maxHeartbeats 4000000 in
theorem spcputnode_any {s d : Nat} {p : SP.Sp} (hp : SP.Ok p) (B : Nat) (A : Nat -> Prop) (S : DM.DS) (w : World) (hd : Dev B A w d S) (ht : Tame S) (h : Spa (fun k => k < B \/ A k) w s d p) (tt : PTabs (fun k => k < B \/ A k) w) (n : Nat) (hn32 : n < 4294967296) (x : List Pg) (hx : ND.Nok x) : Calls Tryz.prog 18 #[.pointer (some ⟨s, 0, none⟩), .int .u32 (n : Int), .agg (pcs x).toArray] w fun e w' => e = .returned (.tuple #[.agg (pc (SP.putNode p S n x).2.1).toArray, .int .i64 (SP.putNode p S n x).2.2]) /\ Dev B A w' d (SP.putNode p S n x).1 /\ Kept B A w w' := by
  have HFR := Lib.hid (fun k (hk : k < B \/ A k) => (show k ≠ (w.heap.size + 1) from fun e => by have := hd.old k hk; omega))
  obtain ⟨RZ, hRZ⟩ : ∃ x, x = pc ND.zp := ⟨_, rfl⟩
  have hz : ∀ w, (zeroValue 49).run Tryz.prog w = .ok (.agg RZ.toArray) w := by rw [hRZ]; exact zeroRfP
  have RZ33 := Lib.hid (show RZ.length = 33 by rw [hRZ]; exact pc_len ND.zp_ok)
  have X264 := Lib.hid (ND.pcs_len8 hx)
  have HNP := Lib.hid (fun W => npput_any x hx W)
  have HOL := Lib.hid (ND.ones_len8 hx)
  obtain ⟨w1, hw1⟩ : ∃ y, y = (w.alloc (.cells (pcs x).toArray 51)).alloc (.cells RZ.toArray 49) := ⟨_, rfl⟩
  have W1 := Lib.hid (show Below w.heap.size w w1 by rw [hw1]; exact ((Below.refl w.heap.size w).alloc (Nat.le_refl _) (.cells (pcs x).toArray 51)).alloc (by simp) _)
  have X1 := Lib.hid (show Blk w1 w.heap.size 51 (pcs x) by rw [hw1]; exact (Blk.new w 51 (pcs x) _ rfl).alloc _)
  have R1 := Lib.hid (show Blk w1 (w.heap.size + 1) 49 RZ by rw [hw1]; exact Blk.new _ 49 RZ (w.heap.size + 1) (by simp))
  have HPU := Lib.hid (fun W (ba : Option Addr) (bl bc : Nat) b0 b1 (hW : Below w.heap.size w W) (g0 : Blk W b0 28 [.pointer (some ⟨s, 0, none⟩)]) (g1 : Blk W b1 46 [.slice ba bl bc]) (hv : Rd W (.slice ba bl bc) (ones x)) => spcput_any hp B (fun k => A k \/ (w.heap.size <= k /\ k < W.heap.size)) S W (hd.own hW) ht (h.below hW) n hn32 93 22 #[.pointer (some ⟨b1, 0, none⟩), .pointer (some ⟨b0, 0, none⟩)] #[] (SP.padE p (ones x)) (SP.padL p (ones x)) (SP.nsum (SP.padL p (ones x))) (sha_bytes _)
    (fun V => by rw [show (#[] ++ #[.pointer (some ⟨b1, 0, none⟩), .pointer (some ⟨b0, 0, none⟩)] : Array Value) = #[.pointer (some ⟨b1, 0, none⟩), .pointer (some ⟨b0, 0, none⟩)] by simp]; go_simp) (fun v V => by rw [Array.append_empty]; go_simp)
    (fun _ V hV => by rw [show (#[] ++ #[.pointer (some ⟨b1, 0, none⟩), .pointer (some ⟨b0, 0, none⟩)] : Array Value) = #[.pointer (some ⟨b1, 0, none⟩), .pointer (some ⟨b0, 0, none⟩)] by simp]; exact sppadded1_any hp (ones x) ba bl bc b0 b1 V (h.below (hW.on hV)) (g0.below hV g0.lt) (g1.below hV g1.lt) (hv.below hV))
    (fun _ V v hK hr _ => by rw [Array.append_empty]; exact npsum_any _ v V hr ((tt.below hW).kept hK (fun i hi => hi.imp_right .inl)).p))
  have hok : Pok (SP.putNode p S n x).2.1 := by rw [<- SP.pput_node hp S n hx]; exact SP.pput_ok hn32 (sha_bytes _)
  rw [SP.pput_node hp S n hx] at HPU
  obtain ⟨S1, hS1⟩ : ∃ y, y = (SP.putNode p S n x).1 := ⟨_, rfl⟩
  obtain ⟨ev, hev⟩ : ∃ y, y = (SP.putNode p S n x).2.2 := ⟨_, rfl⟩
  have C33 := Lib.hid (show (pc (SP.putNode p S n x).2.1).length = 33 from pc_len hok)
  have C1 := Lib.hid (one_pg (SP.putNode p S n x).2.1)
  obtain ⟨C, hC⟩ : ∃ y, y = pc (SP.putNode p S n x).2.1 := ⟨_, rfl⟩
  rw [<- hS1, <- hev, <- hC] at HPU
  rw [<- hC] at C33 C1
  rw [<- hS1, <- hev, <- hC]
  have HPD := Lib.hid (fun W ba bl bc => sppadded_any (some ⟨s, 0, none⟩) ba bl bc W)
  obtain ⟨ON, hON⟩ : ∃ y, y = ones x := ⟨_, rfl⟩
  rw [<- hON] at HNP HPU HOL
  obtain ⟨XC, hXC⟩ : ∃ y, y = pcs x := ⟨_, rfl⟩
  rw [<- hXC] at X264 X1 HNP hw1 ⊢
  clear hS1 hev hC hok hRZ hp hd ht h tt hn32 hON hXC hx
  go_enter Tryz.func18, Tryz.ntmps18
  go_upto_region 1 with fail
  rw [<- hw1]
  clear hw1
  go_wp2_with (first
    | ((with_reducible show wpList _ _ _ (Oper.mk _ (.load _ (.tmp 5)) _ _ _ _ :: _) _ _); refine wpList_load_mid rfl 51 (.tmp 5) rfl w.heap.size 0 rfl XC _ X1.out.range Tryz.underlying51 rfl (by rw [X264.out]; exact infoNdP) ?_)
    | (go_at_call 52; (with_reducible refine (HNP.out _).mono ?_); rintro e w2 ⟨v, rfl, o2, b2⟩; obtain ⟨va, vc, rfl, _⟩ := o2.rd.shape; rw [HOL.out] at o2 ⊢; have O2 := Lib.hid o2.rd; have W2 := Lib.hid (W1.out.on b2); have R2 := Lib.hid (R1.out.below b2 R1.out.lt); clear o2 b2)
    | (go_at_call 51; (with_reducible refine (HPD.out _ _ _ _).mono ?_); rintro e w3 ⟨b0, b1, rfl, _, _, g0, g1, b3⟩; have G0 := Lib.hid g0; have G1 := Lib.hid g1; have W3 := Lib.hid (W2.out.on b3); have O3 := Lib.hid (O2.out.below b3); have R3 := Lib.hid (R2.out.below b3 R2.out.lt); clear g0 g1 b3)
    | (go_at_call 50; refine (HPU.out _ _ _ _ b0 b1 W3.out G0.out G1.out O3.out).mono ?_; rintro e w4 ⟨rfl, d4, k4⟩; have D4 := Lib.hid d4; have K4 := Lib.hid k4; have R4 := Lib.hid (R3.out.kept k4 (.inr (.inr ⟨by omega, R3.out.lt⟩))); clear d4 k4)
    | ((with_reducible show wpList _ _ _ (Oper.mk _ (.store _ (.tmp 6) (.tmp 15)) _ _ _ _ :: _) _ _); refine wpList_store_blk rfl 49 (.tmp 6) (.tmp 15) rfl (w.heap.size + 1) 0 C rfl rfl 49 RZ R4.out (by have := C33.out; have := RZ33.out; omega) (by rw [C33.out]; exact infoRfQ) C1.out ?_; intro w5 b' g'; rw [splice_all _ _ (by rw [C33.out, RZ33.out])] at b'; have U := Lib.hid b'; have GRU := Lib.hid g'; clear b' g'))
  refine bodyPost_ret (results_mid2 rfl _ _ (w.heap.size + 1) C _ rfl U.out.range Tryz.underlying49 rfl (by rw [C33.out]; exact infoRfQ)) rfl ?_
  exact ⟨rfl, (D4.out.turn GRU.out (fun g e => .inr (by rw [<- Option.some.inj e]; exact ⟨by omega, R3.out.lt⟩))).less (fun _ q => .inl q), ((Kept.of_below W3.out).trans (K4.out.less (fun _ q => .inl q))).trans (Kept.of_grown GRU.out HFR.out)⟩
def PdB (w w1 : World) (B : Nat) (A : Nat -> Prop) (s d : Nat) (S1 : DM.DS) (m : Nat) (RZ C : List Value) : Nat -> Told -> World -> Prop
  | 0, _, W => Below w1.heap.size w1 W
  | 1, r, W => ∃ b0 b1, r 6 = some (.func (.func 84) #[] #[.pointer (some ⟨b0, 0, none⟩), .pointer (some ⟨b1, 0, none⟩)]) /\ w.heap.size <= b0 /\ w.heap.size <= b1 /\ Blk W b0 28 [.pointer (some ⟨s, 0, none⟩)] /\ Blk W b1 45 [.int .u32 (m : Int)] /\ Below w1.heap.size w1 W
  | 2, _, W => ∃ V, Below w1.heap.size w1 V /\ Dev B (fun k => A k \/ (w.heap.size <= k /\ k < V.heap.size)) W d S1 /\ Kept B (fun k => A k \/ (w.heap.size <= k /\ k < V.heap.size)) V W /\ Blk W (w.heap.size + 1 + 1 + 1) 49 RZ
  | _, _, W => Dev B A W d S1 /\ Kept B A w W /\ Blk W (w.heap.size + 1 + 1 + 1) 49 C
set_option maxRecDepth 100000 in
set_option maxHeartbeats 4000000 in
theorem spcputdata_any {s d : Nat} {p : SP.Sp} (hp : SP.Ok p) (B : Nat) (A : Nat -> Prop) (S : DM.DS) (w : World) (hd : Dev B A w d S) (ht : Tame S) (h : Spa (fun k => k < B \/ A k) w s d p) (tt : PTabs (fun k => k < B \/ A k) w) (n : Nat) (hn32 : n < 4294967296) (b : List Nat) (v : Value) (hv : Rd w v b) : Calls Tryz.prog 17 #[.pointer (some ⟨s, 0, none⟩), .int .u32 (n : Int), v] w fun e w' => e = .returned (.tuple #[.agg (pc (SP.putData p S n b).2.1).toArray, .int .i64 (SP.putData p S n b).2.2]) /\ Dev B A w' d (SP.putData p S n b).1 /\ Kept B A w w' := by
  obtain ⟨ba, bc, rfl, _⟩ := hv.shape
  have HFR := Lib.hid (fun k (hk : k < B \/ A k) => (show k ≠ (w.heap.size + 1 + 1 + 1) from fun e => by have := hd.old k hk; omega))
  obtain ⟨RZ, hRZ⟩ : ∃ x, x = pc ND.zp := ⟨_, rfl⟩
  have hz : ∀ w, (zeroValue 49).run Tryz.prog w = .ok (.agg RZ.toArray) w := by rw [hRZ]; exact zeroRfP
  have RZ33 := Lib.hid (show RZ.length = 33 by rw [hRZ]; exact pc_len ND.zp_ok)
  obtain ⟨bl, hbl⟩ : ∃ x, x = b.length := ⟨_, rfl⟩
  rw [<- hbl] at hv ⊢
  obtain ⟨w1, hw1⟩ : ∃ x, x = (((w.alloc (.cells #[.pointer (some ⟨s, 0, none⟩)] 28)).alloc (.cells #[.int .u32 (n : Int)] 45)).alloc (.cells #[.slice ba bl bc] 46)).alloc (.cells RZ.toArray 49) := ⟨_, rfl⟩
  have W1 := Lib.hid (show Below w.heap.size w w1 by rw [hw1]; exact ((((Below.refl w.heap.size w).alloc (Nat.le_refl _) _).alloc (by simp) _).alloc (by simp; omega) _).alloc (by simp; omega) _)
  have P0 := Lib.hid (show Blk w1 w.heap.size 28 [.pointer (some ⟨s, 0, none⟩)] by rw [hw1]; exact (((Blk.new w 28 [.pointer (some ⟨s, 0, none⟩)] _ rfl).alloc _).alloc _).alloc _)
  have P1 := Lib.hid (show Blk w1 (w.heap.size + 1) 45 [.int .u32 (n : Int)] by rw [hw1]; exact ((Blk.new _ 45 [.int .u32 (n : Int)] (w.heap.size + 1) (by simp)).alloc _).alloc _)
  have P2 := Lib.hid (show Blk w1 (w.heap.size + 1 + 1) 46 [.slice ba bl bc] by rw [hw1]; exact (Blk.new _ 46 [.slice ba bl bc] (w.heap.size + 1 + 1) (by simp)).alloc _)
  have R1 := Lib.hid (show Blk w1 (w.heap.size + 1 + 1 + 1) 49 RZ by rw [hw1]; exact Blk.new _ 49 RZ (w.heap.size + 1 + 1 + 1) (by simp))
  obtain ⟨m, hm⟩ : ∃ m : Nat, m = (n + 1) % 4294967296 := ⟨_, rfl⟩
  have hm32 : m < 4294967296 := by omega
  have HWN := Lib.hid (show IntKind.u32.wrap ((n : Int) + 1) = (m : Int) by rw [IntKind.wrap_u32]; omega)
  have HPU := Lib.hid (fun W b0 b1 (hW : Below w1.heap.size w1 W) (l0 : w.heap.size <= b0) (l1 : w.heap.size <= b1) (g0 : Blk W b0 28 [.pointer (some ⟨s, 0, none⟩)]) (g1 : Blk W b1 45 [.int .u32 (m : Int)]) => spcput_any hp B (fun k => A k \/ (w.heap.size <= k /\ k < W.heap.size)) S W (hd.own (W1.out.on hW)) ht (h.below (W1.out.on hW)) n hn32 48 84 #[.pointer (some ⟨w.heap.size, 0, none⟩), .pointer (some ⟨(w.heap.size + 1), 0, none⟩), .pointer (some ⟨(w.heap.size + 1 + 1), 0, none⟩)] #[.pointer (some ⟨b0, 0, none⟩), .pointer (some ⟨b1, 0, none⟩)] (xerr b.length) (SP.sealL p n b) (SP.leaf p m (SP.sealL p n b)) (mac_bytes _ _)
    (fun V => by rw [show (#[] ++ #[.pointer (some ⟨w.heap.size, 0, none⟩), .pointer (some ⟨(w.heap.size + 1), 0, none⟩), .pointer (some ⟨(w.heap.size + 1 + 1), 0, none⟩)] : Array Value) = #[.pointer (some ⟨w.heap.size, 0, none⟩), .pointer (some ⟨(w.heap.size + 1), 0, none⟩), .pointer (some ⟨(w.heap.size + 1 + 1), 0, none⟩)] by simp]; go_simp) (fun v V => by rw [show (#[v] ++ #[.pointer (some ⟨b0, 0, none⟩), .pointer (some ⟨b1, 0, none⟩)] : Array Value) = #[v, .pointer (some ⟨b0, 0, none⟩), .pointer (some ⟨b1, 0, none⟩)] by simp]; go_simp)
    (fun hn5 V hV => by rw [show (#[] ++ #[.pointer (some ⟨w.heap.size, 0, none⟩), .pointer (some ⟨(w.heap.size + 1), 0, none⟩), .pointer (some ⟨(w.heap.size + 1 + 1), 0, none⟩)] : Array Value) = #[.pointer (some ⟨w.heap.size, 0, none⟩), .pointer (some ⟨(w.heap.size + 1), 0, none⟩), .pointer (some ⟨(w.heap.size + 1 + 1), 0, none⟩)] by simp]; exact spseal1_any hp n hn5 b ba bl bc w.heap.size (w.heap.size + 1) (w.heap.size + 1 + 1) V (h.below ((W1.out.on hW).on hV)) (P0.out.below (hW.on hV) P0.out.lt) (P1.out.below (hW.on hV) P1.out.lt) (P2.out.below (hW.on hV) P2.out.lt) (hv.below ((W1.out.on hW).on hV)) (tt.below ((W1.out.on hW).on hV)).x)
    (fun _ V v hK hr _ => by rw [show (#[v] ++ #[.pointer (some ⟨b0, 0, none⟩), .pointer (some ⟨b1, 0, none⟩)] : Array Value) = #[v, .pointer (some ⟨b0, 0, none⟩), .pointer (some ⟨b1, 0, none⟩)] by simp]; exact spleaf1_any hp m hm32 _ v b0 b1 V ((h.below (W1.out.on hW)).kept hK (fun i hi => hi.imp_right .inl)) (g0.kept hK (.inr (.inr ⟨l0, g0.lt⟩))) (g1.kept hK (.inr (.inr ⟨l1, g1.lt⟩))) hr ((tt.below (W1.out.on hW)).kept hK (fun i hi => hi.imp_right .inl)).p))
  have hpe := SP.pput_data hp S n m (fun h5 => by omega) b
  have hok : Pok (SP.putData p S n b).2.1 := by rw [<- hpe]; exact SP.pput_ok hn32 (mac_bytes _ _)
  rw [hpe] at HPU
  obtain ⟨S1, hS1⟩ : ∃ y, y = (SP.putData p S n b).1 := ⟨_, rfl⟩
  obtain ⟨ev, hev⟩ : ∃ y, y = (SP.putData p S n b).2.2 := ⟨_, rfl⟩
  have C33 := Lib.hid (show (pc (SP.putData p S n b).2.1).length = 33 from pc_len hok)
  have C1 := Lib.hid (one_pg (SP.putData p S n b).2.1)
  obtain ⟨C, hC⟩ : ∃ y, y = pc (SP.putData p S n b).2.1 := ⟨_, rfl⟩
  rw [<- hS1, <- hev, <- hC] at HPU
  rw [<- hC] at C33 C1
  rw [<- hS1, <- hev, <- hC]
  have hmf := fun (fn : Fn) (first cap : Array Value) (w : World) => run_makeFunc fn first cap w
  clear hpe hS1 hev hC hok hRZ hp hd ht h tt hn32 hv hbl hm hm32
  go_enter Tryz.func17, Tryz.ntmps17
  go_upto_region 1 with fail
  rw [<- hw1]
  clear hw1
  go_upto_region 2 with fail
  refine wp_region_z (by kernel_rfl) [6, 7, 10] (by kernel_rfl) (by kernel_rfl) (Stg [6, 7, 10] ((PdB w w1 B A s d S1 m RZ C))) [.pre (.pointer (some ⟨s, 0, none⟩)), .pre (.int .u32 (n : Int)), .pre (.func (.func 48) #[] #[.pointer (some ⟨w.heap.size, 0, none⟩), .pointer (some ⟨(w.heap.size + 1), 0, none⟩), .pointer (some ⟨(w.heap.size + 1 + 1), 0, none⟩)]), .pre (.pointer (some ⟨s, 0, none⟩)), .pre (.int .u32 (n : Int)), .pre (.int .u32 (m : Int)), .of 6 (fun u v => v = u), .pre (.tuple #[.agg C.toArray, .int .i64 ev]), .pre (.agg C.toArray), .pre (.int .i64 ev), .any, .pre (.int .i64 ev)] (fun i hi hq => by
        simp only [List.mem_cons, List.mem_nil_iff, or_false] at hi
        rcases hi with rfl | rfl | rfl
        . exact absurd hq (by decide +kernel)
        . exact absurd hq (by decide +kernel)
        . rfl) (Stg.zero (Below.refl _ _).drew) ?_ ?_
  . refine ⟨?_, ?_, ?_, ?_, ?_, ?_, ?_, ?_, ?_, ?_, ?_, ?_, trivial⟩
    . intro a w5 r hF hI hns hri h1 h2 hd
      have e3 : a.eval (.tmp 3) = .pointer (some ⟨w.heap.size, 0, none⟩) := hF 3 (by decide +kernel)
      obtain ⟨k, hk1, hk2, hA⟩ : ∃ k, 0 <= k /\ k <= 1 /\ (PdB w w1 B A s d S1 m RZ C) k r w5 := hI.between 0 1 (.inl rfl) (.inr ⟨by decide, h1 7 (by decide) (by decide +kernel)⟩)
      have hB : w5.cell? ⟨w.heap.size, 0, none⟩ = some (.pointer (some ⟨s, 0, none⟩)) := by
        rcases (show k = 0 \/ k = 1 by omega) with rfl | rfl
        . exact (P0.out.below hA P0.out.lt).cell 0 _ rfl
        . exact (P0.out.below hA.choose_spec.choose_spec.2.2.2.2.2 P0.out.lt).cell 0 _ rfl
      exact doesZ_read (v := .pointer (some ⟨s, 0, none⟩)) (by decide) rfl (by unfold execOp; simp only [e3]; go_simp) hI rfl
    . intro a w5 r hF hI hns hri h1 h2 hd
      have e4 : a.eval (.tmp 4) = .pointer (some ⟨w.heap.size + 1, 0, none⟩) := hF 4 (by decide +kernel)
      obtain ⟨k, hk1, hk2, hA⟩ : ∃ k, 0 <= k /\ k <= 1 /\ (PdB w w1 B A s d S1 m RZ C) k r w5 := hI.between 0 1 (.inl rfl) (.inr ⟨by decide, h1 7 (by decide) (by decide +kernel)⟩)
      have hB : w5.cell? ⟨w.heap.size + 1, 0, none⟩ = some (.int .u32 (n : Int)) := by
        rcases (show k = 0 \/ k = 1 by omega) with rfl | rfl
        . exact (P1.out.below hA P1.out.lt).cell 0 _ rfl
        . exact (P1.out.below hA.choose_spec.choose_spec.2.2.2.2.2 P1.out.lt).cell 0 _ rfl
      exact doesZ_read (v := .int .u32 (n : Int)) (by decide) rfl (by unfold execOp; simp only [e4]; go_simp) hI rfl
    . intro a w5 r hF hI hns hri h1 h2 hd
      have e8 : a.eval (.tmp 8) = .func (.func 48) #[] #[.pointer (some ⟨w.heap.size, 0, none⟩), .pointer (some ⟨(w.heap.size + 1), 0, none⟩), .pointer (some ⟨(w.heap.size + 1 + 1), 0, none⟩)] := hF 8 (by decide +kernel)
      exact doesZ_read (v := .func (.func 48) #[] #[.pointer (some ⟨w.heap.size, 0, none⟩), .pointer (some ⟨(w.heap.size + 1), 0, none⟩), .pointer (some ⟨(w.heap.size + 1 + 1), 0, none⟩)]) (by decide) rfl (ex_move rfl e8) hI rfl
    . intro a w5 r hF hI hns hri h1 h2 hd
      have e3 : a.eval (.tmp 3) = .pointer (some ⟨w.heap.size, 0, none⟩) := hF 3 (by decide +kernel)
      have hA0 : (PdB w w1 B A s d S1 m RZ C) 0 r w5 := hI.at_ 0 (.inl rfl) (.inr ⟨by decide, h1 6 (by decide) (by decide +kernel)⟩)
      have hB : w5.cell? ⟨w.heap.size, 0, none⟩ = some (.pointer (some ⟨s, 0, none⟩)) := by exact (P0.out.below hA0 P0.out.lt).cell 0 _ rfl
      exact doesZ_read (v := .pointer (some ⟨s, 0, none⟩)) (by decide) rfl (by unfold execOp; simp only [e3]; go_simp) hI rfl
    . intro a w5 r hF hI hns hri h1 h2 hd
      have e4 : a.eval (.tmp 4) = .pointer (some ⟨w.heap.size + 1, 0, none⟩) := hF 4 (by decide +kernel)
      have hA0 : (PdB w w1 B A s d S1 m RZ C) 0 r w5 := hI.at_ 0 (.inl rfl) (.inr ⟨by decide, h1 6 (by decide) (by decide +kernel)⟩)
      have hB : w5.cell? ⟨w.heap.size + 1, 0, none⟩ = some (.int .u32 (n : Int)) := by exact (P1.out.below hA0 P1.out.lt).cell 0 _ rfl
      exact doesZ_read (v := .int .u32 (n : Int)) (by decide) rfl (by unfold execOp; simp only [e4]; go_simp) hI rfl
    . intro a w5 r hF hI hns hri h1 h2 hd
      have e14 : a.eval (.tmp 14) = .int .u32 (n : Int) := hd 4 (by decide +kernel)
      have hwn := HWN.out
      exact doesZ_read (v := .int .u32 (m : Int)) (by decide) rfl (ex_binOp rfl e14 rfl (by go_simp) (by go_simp)) hI rfl
    . intro a w5 r hF hI hns hri h1 h2 hd
      have e13 : a.eval (.tmp 13) = .pointer (some ⟨s, 0, none⟩) := hd 3 (by decide +kernel)
      have e15 : a.eval (.tmp 15) = .int .u32 (m : Int) := hd 5 (by decide +kernel)
      have hA0 : (PdB w w1 B A s d S1 m RZ C) 0 r w5 := hI.at_ 0 (.inl rfl) (.inr ⟨by decide, hri⟩)
      exact doesZ_call (by decide) rfl (ex_call (vs := #[.pointer (some ⟨s, 0, none⟩), .int .u32 (m : Int)]) rfl (by simp only [List.map_toArray, List.map_cons, List.map_nil, e13, e15]) (by go_simp)) ((spleaf_any (some ⟨s, 0, none⟩) m w5).mono fun e w6 hh => by obtain ⟨b0, b1, he, l0, l1, g0, g1, hb⟩ := hh; exact ⟨_, he, hI.next 0 6 _ rfl (by decide) (.inl rfl) hri (by decide) ⟨b0, b1, Told.set_same _ _ _, Nat.le_trans (W1.out.on hA0).size l0, Nat.le_trans (W1.out.on hA0).size l1, g0, g1, hA0.on hb⟩, _, Told.set_same _ _ _, rfl⟩)
    . intro a w5 r hF hI hns hri h1 h2 hd
      have e10 : a.eval (.tmp 10) = .pointer (some ⟨s, 0, none⟩) := hd 0 (by decide +kernel)
      have e11 : a.eval (.tmp 11) = .int .u32 (n : Int) := hd 1 (by decide +kernel)
      have e12 : a.eval (.tmp 12) = .func (.func 48) #[] #[.pointer (some ⟨w.heap.size, 0, none⟩), .pointer (some ⟨(w.heap.size + 1), 0, none⟩), .pointer (some ⟨(w.heap.size + 1 + 1), 0, none⟩)] := hd 2 (by decide +kernel)
      obtain ⟨u16, hu16, e16⟩ : ∃ u, r 6 = some u /\ a.eval (.tmp 16) = u := hd 6 (by decide +kernel)
      have hA0 : (PdB w w1 B A s d S1 m RZ C) 1 r w5 := hI.at_ 1 (.inr ⟨by decide, h2 6 (by decide) (by decide +kernel)⟩) (.inr ⟨by decide, hri⟩)
      obtain ⟨b0, b1, hr, l0, l1, g0, g1, hb0⟩ := hA0
      obtain rfl : u16 = .func (.func 84) #[] #[.pointer (some ⟨b0, 0, none⟩), .pointer (some ⟨b1, 0, none⟩)] := Option.some.inj (hu16.symm.trans hr)
      exact doesZ_call (by decide) rfl (ex_call (vs := #[.pointer (some ⟨s, 0, none⟩), .int .u32 (n : Int), .func (.func 48) #[] #[.pointer (some ⟨w.heap.size, 0, none⟩), .pointer (some ⟨(w.heap.size + 1), 0, none⟩), .pointer (some ⟨(w.heap.size + 1 + 1), 0, none⟩)], .func (.func 84) #[] #[.pointer (some ⟨b0, 0, none⟩), .pointer (some ⟨b1, 0, none⟩)]]) rfl (by simp only [List.map_toArray, List.map_cons, List.map_nil, e10, e11, e12, e16]) (by go_simp)) ((HPU.out w5 b0 b1 hb0 l0 l1 g0 g1).mono fun e w6 hh => ⟨_, hh.1, hI.next 1 7 _ rfl (by decide) (.inr ⟨by decide, h2 6 (by decide) (by decide +kernel)⟩) hri (by decide) ⟨w5, hb0, hh.2.1, hh.2.2, (R1.out.below hb0 R1.out.lt).kept hh.2.2 (.inr (.inr ⟨by omega, (R1.out.below hb0 R1.out.lt).lt⟩))⟩, rfl⟩)
    . intro a w5 r hF hI hns hri h1 h2 hd
      have e17 : a.eval (.tmp 17) = .tuple #[.agg C.toArray, .int .i64 ev] := hd 7 (by decide +kernel)
      exact doesZ_read (v := .agg C.toArray) (by decide) rfl (by unfold execOp; simp only [e17]; rfl) hI rfl
    . intro a w5 r hF hI hns hri h1 h2 hd
      have e17 : a.eval (.tmp 17) = .tuple #[.agg C.toArray, .int .i64 ev] := hd 7 (by decide +kernel)
      exact doesZ_read (v := .int .i64 ev) (by decide) rfl (by unfold execOp; simp only [e17]; rfl) hI rfl
    . intro a w5 r hF hI hns hri h1 h2 hd
      have e6 : a.eval (.tmp 6) = .pointer (some ⟨(w.heap.size + 1 + 1 + 1), 0, none⟩) := hF 6 (by decide +kernel)
      have e18 : a.eval (.tmp 18) = .agg C.toArray := hd 8 (by decide +kernel)
      have hA0 : (PdB w w1 B A s d S1 m RZ C) 2 r w5 := hI.at_ 2 (.inr ⟨by decide, h2 7 (by decide) (by decide +kernel)⟩) (.inr ⟨by decide, hri⟩)
      obtain ⟨V, hb0, d4, k4, r4⟩ := hA0
      exact doesZ_put (by decide) rfl 49 (.tmp 6) (.tmp 18) rfl (w.heap.size + 1 + 1 + 1) 0 C e6 e18 49 RZ r4 (by have := C33.out; have := RZ33.out; omega) (by rw [C33.out]; exact infoRfQ) C1.out rfl (fun w' b' g' => by rw [splice_all _ _ (by rw [C33.out, RZ33.out])] at b'; exact hI.next 2 10 _ rfl (by decide) (.inr ⟨by decide, h2 7 (by decide) (by decide +kernel)⟩) hri (by decide) ⟨(d4.turn g' (fun g e => .inr (by rw [<- Option.some.inj e]; exact ⟨by omega, Nat.lt_of_lt_of_le R1.out.lt hb0.size⟩))).less (fun _ q => .inl q), ((Kept.of_below (W1.out.on hb0)).trans (k4.less (fun _ q => .inl q))).trans (Kept.of_grown g' HFR.out), b'⟩)
    . intro a w5 r hF hI hns hri h1 h2 hd
      have e19 : a.eval (.tmp 19) = .int .i64 ev := hd 9 (by decide +kernel)
      exact doesZ_read (v := .int .i64 ev) (by decide) rfl (ex_assign rfl e19) hI rfl
  . intro vs r w5 hI hS hvs
    have hA : (PdB w w1 B A s d S1 m RZ C) 3 r w5 := hI.at_ 3 (.inr ⟨by decide, hS 10 (by decide)⟩) (.inl rfl)
    have e7 : vs 11 = .int .i64 ev := hvs 11 (by decide)
    have D5 := Lib.hid hA.1
    have K5 := Lib.hid hA.2.1
    have U := Lib.hid hA.2.2
    simp only [putOps, Act.put, List.setIfInBounds_toArray, List.set_cons_zero, List.set_cons_succ, e7]
    clear hI hS hvs hA e7 HPU
    generalize vs 0 = z0
    generalize vs 1 = z1
    generalize vs 2 = z2
    generalize vs 3 = z3
    generalize vs 4 = z4
    generalize vs 5 = z5
    generalize vs 6 = z6
    generalize vs 7 = z7
    generalize vs 8 = z8
    generalize vs 9 = z9
    go_wp2_with fail
    refine bodyPost_ret (results_mid2 rfl _ _ (w.heap.size + 1 + 1 + 1) C _ rfl U.out.range Tryz.underlying49 rfl (by rw [C33.out]; exact infoRfQ)) rfl ?_
    exact ⟨rfl, D5.out, K5.out⟩
end Go.Proofs.YtjalknpeecgllaaGreatDoor
end

section
namespace Go.Proofs.YtjalknpeecgllaaGreatDoor
open Go.ChangeShapes Go.WideShapes Go.ChangeAt Go.RowKit
namespace SU
def head9 : List Nat := [82, 69, 76, 73, 81, 85, 65, 82, 89]
def raw (c p : Nat) : List Nat := head9 ++ [1] ++ be c 2 ++ [p]
def laid (c p : Nat) : List Nat := padTo (raw c p) 512
def put (C P : Int) : List Nat := if may C P = true then laid C.toNat P.toNat else []
def perr (C P : Int) : Int := if may C P = true then 0 else 2
theorem raw_len (c p : Nat) : (raw c p).length = 13 := by unfold raw; rw [List.length_append, List.length_append, be_len]; rfl
theorem laid_len (c p : Nat) : (laid c p).length = 512 := by unfold laid; rw [padTo_len, raw_len]; decide
theorem raw_flat (c p : Nat) : [head9, [1], be c 2, [p]].flatten = raw c p := by unfold raw; simp
theorem put_yes {c p : Nat} (h : may c p = true) : put c p = laid c p /\ perr c p = 0 := by unfold put perr; rw [if_pos h, if_pos h, Int.toNat_natCast, Int.toNat_natCast]; exact ⟨rfl, rfl⟩
theorem put_no {C P : Int} (h : may C P = false) : put C P = [] /\ perr C P = 2 := by unfold put perr; rw [h]; exact ⟨rfl, rfl⟩
theorem may_nat {C P : Int} (h : may C P = true) : ∃ c p : Nat, C = c /\ P = p /\ 1 <= c /\ c <= 64 /\ 1 <= p /\ p <= 2 := by
  obtain ⟨h1, h2, h3, h4⟩ := may_iff.1 h
  exact ⟨C.toNat, P.toNat, by omega, by omega, by omega, by omega, by omega, by omega⟩
end SU
theorem rds_four {w : World} {x y z u : Value} {l m n p : List Nat} (h : Rd w x l) (k : Rd w y m) (j : Rd w z n) (q : Rd w u p) {b : Nat} (hb : b = w.heap.size) : Rds (w.alloc (.cells #[x, y, z, u] 46)) (.slice (some ⟨b, 0, none⟩) 4 4) [l, m, n, p] := by
  subst hb
  have hB := Blk.new w 46 [x, y, z, u] _ rfl
  refine ⟨by simp, .inr ⟨_, 4, rfl, Nat.le_refl _, fun i l' hj => ?_⟩⟩
  match i, hj with
  | 0, hj => simp at hj; subst hj; exact ⟨x, hB.cell 0 x rfl, h.alloc _⟩
  | 1, hj => simp at hj; subst hj; exact ⟨y, hB.cell 1 y rfl, k.alloc _⟩
  | 2, hj => simp at hj; subst hj; exact ⟨z, hB.cell 2 z rfl, j.alloc _⟩
  | 3, hj => simp at hj; subst hj; exact ⟨u, hB.cell 3 u rfl, q.alloc _⟩
  | i + 4, hj => simp at hj
end Go.Proofs.YtjalknpeecgllaaGreatDoor
end
