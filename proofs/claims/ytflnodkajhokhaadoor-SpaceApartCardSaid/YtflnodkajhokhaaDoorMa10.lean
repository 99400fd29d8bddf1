/- Texts of 7 subjects in one file: SpQB, SpSame, SpQC, SpBeg, SpQD, SpBack, SpQF. Own work. -/
import Derived.Test.YtflnodkajhokhaaDoorMa9
import Derived.Test.YtflnodkajhokhaaDoorMa7
import Derived.Test.YtflnodkajhokhaaDoorMa6
import Derived.Test.YtflnodkajhokhaaDoorMa2
import Derived.Test.YtflnodkajhokhaaDoorMa8
import Derived.Test.YtflnodkajhokhaaDoorMa1
section
namespace Go.Proofs.YtflnodkajhokhaaDoor
open Go.ChangeShapes Go.WideShapes Go.ChangeAt Go.RowKit
open RT XM AM SM
set_option maxHeartbeats 400000 in
theorem spleaf_any (s : Option Addr) (n : Nat) (w : World) : Calls Tryd.prog 25 #[.pointer s, .int .u32 (n : Int)] w fun e w' => ∃ b0 b1, e = .returned (.func (.func 40) #[] #[.pointer (some ⟨b0, 0, none⟩), .pointer (some ⟨b1, 0, none⟩)]) /\ w.heap.size <= b0 /\ w.heap.size <= b1 /\ Blk w' b0 30 [.pointer s] /\ Blk w' b1 34 [.int .u32 (n : Int)] /\ Below w.heap.size w w' := by
  have B0 := Lib.hid ((Blk.new w 30 [.pointer s] _ rfl).alloc (.cells #[.int .u32 (n : Int)] 34))
  have B1 := Lib.hid (Blk.new (w.alloc (.cells #[.pointer s] 30)) 34 [.int .u32 (n : Int)] (w.heap.size + 1) (by simp))
  have W1 := Lib.hid (((Below.refl w.heap.size w).alloc (Nat.le_refl _) (.cells #[.pointer s] 30)).alloc (by simp) (.cells #[.int .u32 (n : Int)] 34))
  have hmf := fun (fn : Fn) (first cap : Array Value) (w : World) => run_makeFunc fn first cap w
  go_enter Tryd.func25, Tryd.ntmps25
  go_wp2_with fail
  go_ret
  exact ⟨w.heap.size, w.heap.size + 1, rfl, Nat.le_refl _, Nat.le_succ _, B0.out, B1.out, W1.out⟩
set_option maxHeartbeats 400000 in
theorem sppadded_any (s ba : Option Addr) (bl bc : Nat) (w : World) : Calls Tryd.prog 18 #[.pointer s, .slice ba bl bc] w fun e w' => ∃ b0 b1, e = .returned (.func (.func 35) #[] #[.pointer (some ⟨b1, 0, none⟩), .pointer (some ⟨b0, 0, none⟩)]) /\ w.heap.size <= b0 /\ w.heap.size <= b1 /\ Blk w' b0 30 [.pointer s] /\ Blk w' b1 25 [.slice ba bl bc] /\ Below w.heap.size w w' := by
  have B0 := Lib.hid ((Blk.new w 30 [.pointer s] _ rfl).alloc (.cells #[.slice ba bl bc] 25))
  have B1 := Lib.hid (Blk.new (w.alloc (.cells #[.pointer s] 30)) 25 [.slice ba bl bc] (w.heap.size + 1) (by simp))
  have W1 := Lib.hid (((Below.refl w.heap.size w).alloc (Nat.le_refl _) (.cells #[.pointer s] 30)).alloc (by simp) (.cells #[.slice ba bl bc] 25))
  have hmf := fun (fn : Fn) (first cap : Array Value) (w : World) => run_makeFunc fn first cap w
  go_enter Tryd.func18, Tryd.ntmps18
  go_wp2_with fail
  go_ret
  exact ⟨w.heap.size, w.heap.size + 1, rfl, Nat.le_refl _, Nat.le_succ _, B0.out, B1.out, W1.out⟩
set_option maxRecDepth 100000 in
set_option maxHeartbeats 1000000 in
theorem spleaf1_any {Z : Nat -> Prop} {s d : Nat} {p : SP.Sp} (hp : SP.Ok p) (n : Nat) (hn : n < 4294967296) (b : List Nat) (v : Value) (b0 b1 : Nat) (w : World) (h : Spa Z w s d p) (h0 : Blk w b0 30 [.pointer (some ⟨s, 0, none⟩)]) (h1 : Blk w b1 34 [.int .u32 (n : Int)]) (hv : Rd w v b) (ht : TabP w) :
    Calls Tryd.prog 40 #[v, .pointer (some ⟨b0, 0, none⟩), .pointer (some ⟨b1, 0, none⟩)] w fun e w' => e = .returned (.agg (row8 (SP.leaf p n b)).toArray) /\ Below w.heap.size w w' := by
  have HTG := Lib.hid (fun W (hW : Below w.heap.size w W) => (show W.rangeAt s 4 (row8 p.tag) from (h.below hW).tag))
  have HLF := Lib.hid (fun W (hW : Below w.heap.size w W) => (show Calls Tryd.prog 41 #[.agg (row8 p.tag).toArray, .int .u32 (n : Int), v] W fun e w' => e = .returned (.agg (row8 (SP.leaf p n b)).toArray) /\ Below W.heap.size W w' from npleaf_any p.tag hp.tag n hn b v W (hv.below hW) (ht.below hW)))
  have TC32 := Lib.hid (show (row8 p.tag).length = 32 by rw [row8_len]; exact hp.tag.1)
  obtain ⟨TC, hTC⟩ : ∃ x, x = row8 p.tag := ⟨_, rfl⟩
  rw [<- hTC] at HTG HLF TC32
  have LM32 := Lib.hid (show (row8 (SP.leaf p n b)).length = 32 by rw [row8_len]; exact (mac_bytes _ _).1)
  have LM1 := Lib.hid (row8_one (SP.leaf p n b))
  obtain ⟨LM, hLM⟩ : ∃ x, x = row8 (SP.leaf p n b) := ⟨_, rfl⟩
  rw [<- hLM] at HLF LM32 LM1 ⊢
  obtain ⟨D0, hD0⟩ : ∃ D, D = row8 (List.replicate 32 0) := ⟨_, rfl⟩
  have hz : ∀ w, (zeroValue 35).run Tryd.prog w = .ok (.agg D0.toArray) w := by rw [hD0]; exact zeroSmN
  have hd0 : D0.length = 32 := by rw [hD0, row8_len, List.length_replicate]
  obtain ⟨w1, hw1⟩ : ∃ x, x = w.alloc (.cells D0.toArray 35) := ⟨_, rfl⟩
  have W1 := Lib.hid (show Below w.heap.size w w1 by rw [hw1]; exact (Below.refl w.heap.size w).alloc (Nat.le_refl _) (.cells D0.toArray 35))
  have R1 := Lib.hid (show Blk w1 w.heap.size 35 D0 by rw [hw1]; exact Blk.new w 35 D0 _ rfl)
  have HB0 := Lib.hid h0
  have HB1 := Lib.hid h1
  clear hTC hLM hD0 hp h h0 h1 hv ht
  go_enter Tryd.func40, Tryd.ntmps40
  go_upto_region 1 with fail
  rw [<- hw1]
  clear hw1
  refine wp_region_l (by kernel_rfl) 7 (by decide) (by kernel_rfl) (by kernel_rfl) (by kernel_rfl) [.val (.pointer (some ⟨s, 0, none⟩)), .val (.pointer (some ⟨s, 0, none⟩)), .val (.pointer (some ⟨s, 4, none⟩)), .val (.agg TC.toArray), .val (.int .u32 (n : Int)), .val (v), .val (.agg LM.toArray)] ?_ ?_
  . refine ⟨?_, ?_, ?_, ?_, ?_, ?_, ?_, trivial⟩
    . intro a w' hF hB hd
      have e1 : a.eval (.tmp 1) = .pointer (some ⟨b0, 0, none⟩) := hF 1 (by decide +kernel)
      have cc := (HB0.out.below (W1.out.on hB) HB0.out.lt).cell 0 _ rfl
      exact doesL_val rfl (v := .pointer (some ⟨s, 0, none⟩)) (by unfold execOp; simp only [e1]; go_simp) rfl
    . intro a w' hF hB hd
      have e5 : a.eval (.tmp 5) = .pointer (some ⟨s, 0, none⟩) := hd 0 (by decide +kernel)
      exact doesL_val rfl (ex_nilCheck rfl e5) rfl
    . intro a w' hF hB hd
      have e6 : a.eval (.tmp 6) = .pointer (some ⟨s, 0, none⟩) := hd 1 (by decide +kernel)
      exact doesL_val rfl (ex_fieldAddr rfl e6 (by go_simp)) rfl
    . intro a w' hF hB hd
      have e7 : a.eval (.tmp 7) = .pointer (some ⟨s, 4, none⟩) := hd 2 (by decide +kernel)
      exact doesL_val rfl (ex_load_part 23 (.tmp 7) rfl s 4 e7 TC _ (HTG.out _ (W1.out.on hB)) Tryd.underlying23 rfl (by rw [TC32.out]; exact infoKeyP)) rfl
    . intro a w' hF hB hd
      have e2 : a.eval (.tmp 2) = .pointer (some ⟨b1, 0, none⟩) := hF 2 (by decide +kernel)
      have cc := (HB1.out.below (W1.out.on hB) HB1.out.lt).cell 0 _ rfl
      exact doesL_val rfl (v := .int .u32 (n : Int)) (by unfold execOp; simp only [e2]; go_simp) rfl
    . intro a w' hF hB hd
      have e0 : a.eval (.tmp 0) = v := hF 0 (by decide +kernel)
      exact doesL_val rfl (ex_move rfl e0) rfl
    . intro a w' hF hB hd
      have e8 : a.eval (.tmp 8) = .agg TC.toArray := hd 3 (by decide +kernel)
      have e9 : a.eval (.tmp 9) = .int .u32 (n : Int) := hd 4 (by decide +kernel)
      have e10 : a.eval (.tmp 10) = v := hd 5 (by decide +kernel)
      exact doesL_call rfl (ex_call (vs := #[.agg TC.toArray, .int .u32 (n : Int), v]) rfl (by simp only [List.map_toArray, List.map_cons, List.map_nil, e8, e9, e10]) (by go_simp)) ((HLF.out w' (W1.out.on hB)).mono fun e w3 hh => ⟨_, hh.1, rfl, hh.2⟩)
  . intro vs w4 hB hv
    have e11 : vs 6 = .agg LM.toArray := hv 6 (by decide)
    simp only [List.take_succ_cons, List.take_zero, List.drop_succ_cons, List.drop_zero, putOps, Act.put, List.setIfInBounds_toArray, List.set_cons_zero, List.set_cons_succ, e11]
    have W4 := Lib.hid (W1.out.on hB)
    have R4 := Lib.hid (R1.out.below hB R1.out.lt)
    clear hv e11 hB
    generalize vs 0 = z0
    generalize vs 1 = z1
    generalize vs 2 = z2
    generalize vs 3 = z3
    generalize vs 4 = z4
    generalize vs 5 = z5
    go_wp2_with ((with_reducible show wpList _ _ _ (Oper.mk _ (.store _ (.tmp 4) (.tmp 11)) _ _ _ _ :: _) _ _); refine wpList_store_blk rfl 35 (.tmp 4) (.tmp 11) rfl w.heap.size 0 LM rfl rfl 35 D0 R4.out (by rw [LM32.out, hd0]; exact Nat.le_refl _) (by rw [LM32.out]; exact infoS) LM1.out ?_; intro w5 b5 g5; rw [splice_all _ _ (by rw [LM32.out, hd0])] at b5; have U5 := Lib.hid b5; have W5 := Lib.hid (W4.out.grown g5 W4.out.size (fun g hg => by have := Option.some.inj hg; omega)); clear b5 g5)
    exact bodyPost_ret (results_mid rfl _ _ w.heap.size LM _ rfl U5.out.range Tryd.underlying35 rfl (by rw [LM32.out]; exact infoS)) rfl ⟨rfl, W5.out⟩
set_option maxRecDepth 100000 in
theorem pad_long (w : World) (v : Value) (l : List Nat) (n : Int) (h : Rd w v l) (h0 : 0 <= n) (h1 : n <= 65536) (h2 : n < l.length) : Calls Tryd.prog 36 #[v, .int .i64 n] w fun e w' => e = .returned (.tuple #[.slice none 0 0, .int .i64 5]) /\ Below w.heap.size w w' := by
  obtain ⟨ao, cap, rfl, hc⟩ := h.shape
  have hfit := h.fits
  obtain ⟨B, hB⟩ : ∃ B, B = w.heap.size := ⟨_, rfl⟩
  have hb := Below.refl B w
  rw [<- hB]
  go_enter Tryd.func36, Tryd.ntmps36
  go_wp2_with fail
  go_ret2
  exact ⟨rfl, hb⟩
def SP.padE (p : SP.Sp) (b : List Nat) : Int := if b.length <= SP.size p then 0 else 5
def SP.padL (p : SP.Sp) (b : List Nat) : List Nat := if b.length <= SP.size p then padTo b (SP.size p) else []
theorem pad_any (w : World) (v : Value) (b : List Nat) (p : SP.Sp) (hp : SP.Ok p) (h : Rd w v b) : Calls Tryd.prog 36 #[v, .int .i64 (SP.size p : Int)] w fun e w' => ∃ y, e = .returned (.tuple #[y, .int .i64 (SP.padE p b)]) /\ Rd w' y (SP.padL p b) /\ NewB w y /\ Below w.heap.size w w' := by
  have hs : SP.size p <= 1024 := by unfold SP.size; have := hp.per; omega
  unfold SP.padE SP.padL
  by_cases c : b.length <= SP.size p
  . rw [if_pos c, if_pos c]
    exact (pad_ok w v b (SP.size p) h (by omega) c).mono fun e w' ⟨he, ho, hb⟩ => ⟨_, he, ho.rd, fun g hg => (ho.from g hg).1, hb⟩
  . rw [if_neg c, if_neg c]
    exact (pad_long w v b (SP.size p) h (by omega) (by omega) (by omega)).mono fun e w' ⟨he, hb⟩ => ⟨_, he, Rd.none_ _, NewB.none_ _, hb⟩
set_option maxRecDepth 100000 in
set_option maxHeartbeats 1000000 in
theorem sppadded1_any {Z : Nat -> Prop} {s d : Nat} {p : SP.Sp} (hp : SP.Ok p) (b : List Nat) (ba : Option Addr) (bl bc : Nat) (b0 b1 : Nat) (w : World) (h : Spa Z w s d p) (h0 : Blk w b0 30 [.pointer (some ⟨s, 0, none⟩)]) (h1 : Blk w b1 25 [.slice ba bl bc]) (hv : Rd w (.slice ba bl bc) b) :
    Calls Tryd.prog 35 #[.pointer (some ⟨b1, 0, none⟩), .pointer (some ⟨b0, 0, none⟩)] w fun e w' => ∃ y, e = .returned (.tuple #[y, .int .i64 (SP.padE p b)]) /\ Rd w' y (SP.padL p b) /\ NewB w y /\ Below w.heap.size w w' := by
  have HSI := Lib.hid (fun W (hW : Below w.heap.size w W) => (spsize_any hp (h.below hW)).mono fun e w' hh => (show e = .returned (.int .i64 (SP.size p : Int)) /\ Below W.heap.size W w' from ⟨hh.1, by rw [hh.2]; exact Below.refl _ _⟩))
  have HPD := Lib.hid (fun W (hW : Below w.heap.size w W) => pad_any W (.slice ba bl bc) b p hp (hv.below hW))
  obtain ⟨E, hE⟩ : ∃ x, x = SP.padE p b := ⟨_, rfl⟩
  obtain ⟨L, hL⟩ : ∃ x, x = SP.padL p b := ⟨_, rfl⟩
  obtain ⟨SZ, hSZ⟩ : ∃ x, x = SP.size p := ⟨_, rfl⟩
  rw [<- hE, <- hL] at HPD ⊢
  rw [<- hSZ] at HSI HPD
  have HB0 := Lib.hid h0
  have HB1 := Lib.hid h1
  clear hE hL hSZ hp h h0 h1 hv
  go_enter Tryd.func35, Tryd.ntmps35
  go_upto_region 1 with fail
  refine wp_region_l (by kernel_rfl) 7 (by decide) (by kernel_rfl) (by kernel_rfl) (by kernel_rfl) [.val (.slice ba bl bc), .val (.pointer (some ⟨s, 0, none⟩)), .val (.int .i64 (SZ : Int)), ⟨fun v W => ∃ y, v = .tuple #[y, .int .i64 E] /\ Rd W y L /\ NewB w y, fun h k => by obtain ⟨y, e, g, n⟩ := h; exact ⟨y, e, g.below k, n⟩⟩, ⟨fun v W => Rd W v L /\ NewB w v, fun h k => ⟨h.1.below k, h.2⟩⟩, .val (.int .i64 E), ⟨fun v W => Rd W v L /\ NewB w v, fun h k => ⟨h.1.below k, h.2⟩⟩] ?_ ?_
  . refine ⟨?_, ?_, ?_, ?_, ?_, ?_, ?_, trivial⟩
    . intro a w' hF hB hd
      have e0 : a.eval (.tmp 0) = .pointer (some ⟨b1, 0, none⟩) := hF 0 (by decide +kernel)
      have cc := (HB1.out.below hB HB1.out.lt).cell 0 _ rfl
      exact doesL_val rfl (v := .slice ba bl bc) (by unfold execOp; simp only [e0]; go_simp) rfl
    . intro a w' hF hB hd
      have e1 : a.eval (.tmp 1) = .pointer (some ⟨b0, 0, none⟩) := hF 1 (by decide +kernel)
      have cc := (HB0.out.below hB HB0.out.lt).cell 0 _ rfl
      exact doesL_val rfl (v := .pointer (some ⟨s, 0, none⟩)) (by unfold execOp; simp only [e1]; go_simp) rfl
    . intro a w' hF hB hd
      have e5 : a.eval (.tmp 5) = .pointer (some ⟨s, 0, none⟩) := hd 1 (by decide +kernel)
      exact doesL_call rfl (ex_call (vs := #[.pointer (some ⟨s, 0, none⟩)]) rfl (by simp only [List.map_toArray, List.map_cons, List.map_nil, e5]) (by go_simp)) ((HSI.out w' hB).mono fun e w3 hh => ⟨_, hh.1, rfl, hh.2⟩)
    . intro a w' hF hB hd
      have e4 : a.eval (.tmp 4) = .slice ba bl bc := hd 0 (by decide +kernel)
      have e6 : a.eval (.tmp 6) = .int .i64 (SZ : Int) := hd 2 (by decide +kernel)
      exact doesL_call rfl (ex_call (vs := #[.slice ba bl bc, .int .i64 (SZ : Int)]) rfl (by simp only [List.map_toArray, List.map_cons, List.map_nil, e4, e6]) (by go_simp)) ((HPD.out w' hB).mono fun e w3 hh => by obtain ⟨y, he, hr, hn, hb⟩ := hh; exact ⟨_, he, ⟨y, rfl, hr, fun g hg => Nat.le_trans hB.size (hn g hg)⟩, hb⟩)
    . intro a w' hF hB hd
      obtain ⟨y, e7, hy, ny⟩ : ∃ y, a.eval (.tmp 7) = .tuple #[y, .int .i64 E] /\ Rd w' y L /\ NewB w y := hd 3 (by decide +kernel)
      exact doesL_val rfl (v := y) (by unfold execOp; simp only [e7]; rfl) ⟨hy, ny⟩
    . intro a w' hF hB hd
      obtain ⟨y, e7, hy, ny⟩ : ∃ y, a.eval (.tmp 7) = .tuple #[y, .int .i64 E] /\ Rd w' y L /\ NewB w y := hd 3 (by decide +kernel)
      exact doesL_val rfl (v := .int .i64 E) (by unfold execOp; simp only [e7]; rfl) rfl
    . intro a w' hF hB hd
      have e8 : Rd w' (a.eval (.tmp 8)) L /\ NewB w (a.eval (.tmp 8)) := hd 4 (by decide +kernel)
      exact doesL_val rfl (ex_assign rfl rfl) e8
  . intro vs w4 hB hv
    have e9 : vs 5 = .int .i64 E := hv 5 (by decide)
    obtain ⟨r2, n2⟩ : Rd w4 (vs 6) L /\ NewB w (vs 6) := hv 6 (by decide)
    obtain ⟨ya, yc, e2, _⟩ := r2.shape
    rw [e2] at r2 n2
    have R2 := Lib.hid r2
    have N2 := Lib.hid n2
    have W4 := Lib.hid hB
    simp only [List.take_succ_cons, List.take_zero, List.drop_succ_cons, List.drop_zero, putOps, Act.put, List.setIfInBounds_toArray, List.set_cons_zero, List.set_cons_succ, e9, e2]
    clear hv e9 e2 r2 n2 hB
    generalize vs 0 = z0
    generalize vs 1 = z1
    generalize vs 2 = z2
    generalize vs 3 = z3
    generalize vs 4 = z4
    go_wp2_with fail
    go_ret2
    exact ⟨_, rfl, R2.out, N2.out, W4.out⟩
def SP.sealL (p : SP.Sp) (n : Nat) (b : List Nat) : List Nat := if xerr b.length = 0 then SP.sealed p n b else []
set_option maxRecDepth 100000 in
set_option maxHeartbeats 1000000 in
theorem spseal1_any {Z : Nat -> Prop} {s d : Nat} {p : SP.Sp} (hp : SP.Ok p) (n : Nat) (hn : n <= 65535) (b : List Nat) (ba : Option Addr) (bl bc : Nat) (b0 b1 b2 : Nat) (w : World) (h : Spa Z w s d p) (h0 : Blk w b0 30 [.pointer (some ⟨s, 0, none⟩)]) (h1 : Blk w b1 34 [.int .u32 (n : Int)]) (h2 : Blk w b2 25 [.slice ba bl bc]) (hv : Rd w (.slice ba bl bc) b) (ht : TabX w) :
    Calls Tryd.prog 22 #[.pointer (some ⟨b0, 0, none⟩), .pointer (some ⟨b1, 0, none⟩), .pointer (some ⟨b2, 0, none⟩)] w fun e w' => ∃ y, e = .returned (.tuple #[y, .int .i64 (xerr b.length)]) /\ Rd w' y (SP.sealL p n b) /\ NewB w y /\ Below w.heap.size w w' := by
  obtain ⟨x, c0, c2, c3, hx⟩ := h.cells
  have HSE := Lib.hid (fun W (hW : Below w.heap.size w W) => spsector_any hp (h.below hW) n hn)
  have HX3 := Lib.hid (fun W (hW : Below w.heap.size w W) => (show W.cell? ⟨s, 3, none⟩ = some (.pointer (some ⟨x, 0, none⟩)) from (hW.cell (p := ⟨s, 3, none⟩) h.lt).trans c3))
  have HPD := Lib.hid (fun W (hW : Below w.heap.size w W) => xt_sealN x p.one p.two (SP.sect p n) (SP.sect_lt hp hn) (.slice ba bl bc) b W (hv.below hW) (hx.below hW) (ht.below hW))
  obtain ⟨E, hE⟩ : ∃ x, x = xerr b.length := ⟨_, rfl⟩
  obtain ⟨L, hL⟩ : ∃ x, x = SP.sealL p n b := ⟨_, rfl⟩
  have hL2 : (if xerr b.length = 0 then xseal (keys p.one) (keys p.two) (SP.sect p n) b else []) = L := by rw [hL]; rfl
  rw [hL2] at HPD
  obtain ⟨Q, hQ⟩ : ∃ x, x = SP.sect p n := ⟨_, rfl⟩
  rw [<- hE] at HPD
  rw [<- hE, <- hL]
  rw [<- hQ] at HSE HPD
  have HB0 := Lib.hid h0
  have HB1 := Lib.hid h1
  have HB2 := Lib.hid h2
  clear hE hL hL2 hQ hp h h0 h1 h2 hv ht c0 c2 c3 hx hn
  go_enter Tryd.func22, Tryd.ntmps22
  go_upto_region 1 with fail
  refine wp_region_l (by kernel_rfl) 12 (by decide) (by kernel_rfl) (by kernel_rfl) (by kernel_rfl) [.val (.pointer (some ⟨s, 0, none⟩)), .val (.pointer (some ⟨s, 0, none⟩)), .val (.pointer (some ⟨s, 3, none⟩)), .val (.pointer (some ⟨x, 0, none⟩)), .val (.pointer (some ⟨s, 0, none⟩)), .val (.int .u32 (n : Int)), .val (.int .u64 (Q : Int)), .val (.slice ba bl bc), ⟨fun v W => ∃ y, v = .tuple #[y, .int .i64 E] /\ Rd W y L /\ NewB w y, fun h k => by obtain ⟨y, e, g, n⟩ := h; exact ⟨y, e, g.below k, n⟩⟩, ⟨fun v W => Rd W v L /\ NewB w v, fun h k => ⟨h.1.below k, h.2⟩⟩, .val (.int .i64 E), ⟨fun v W => Rd W v L /\ NewB w v, fun h k => ⟨h.1.below k, h.2⟩⟩] ?_ ?_
  . refine ⟨?_, ?_, ?_, ?_, ?_, ?_, ?_, ?_, ?_, ?_, ?_, ?_, trivial⟩
    . intro a w' hF hB hd
      have e0 : a.eval (.tmp 0) = .pointer (some ⟨b0, 0, none⟩) := hF 0 (by decide +kernel)
      have cc := (HB0.out.below hB HB0.out.lt).cell 0 _ rfl
      exact doesL_val rfl (v := .pointer (some ⟨s, 0, none⟩)) (by unfold execOp; simp only [e0]; go_simp) rfl
    . intro a w' hF hB hd
      have e5 : a.eval (.tmp 5) = .pointer (some ⟨s, 0, none⟩) := hd 0 (by decide +kernel)
      exact doesL_val rfl (ex_nilCheck rfl e5) rfl
    . intro a w' hF hB hd
      have e6 : a.eval (.tmp 6) = .pointer (some ⟨s, 0, none⟩) := hd 1 (by decide +kernel)
      exact doesL_val rfl (ex_fieldAddr rfl e6 (by go_simp)) rfl
    . intro a w' hF hB hd
      have e7 : a.eval (.tmp 7) = .pointer (some ⟨s, 3, none⟩) := hd 2 (by decide +kernel)
      have cc := HX3.out w' hB
      exact doesL_val rfl (v := .pointer (some ⟨x, 0, none⟩)) (by unfold execOp; simp only [e7]; go_simp) rfl
    . intro a w' hF hB hd
      have e0 : a.eval (.tmp 0) = .pointer (some ⟨b0, 0, none⟩) := hF 0 (by decide +kernel)
      have cc := (HB0.out.below hB HB0.out.lt).cell 0 _ rfl
      exact doesL_val rfl (v := .pointer (some ⟨s, 0, none⟩)) (by unfold execOp; simp only [e0]; go_simp) rfl
    . intro a w' hF hB hd
      have e1 : a.eval (.tmp 1) = .pointer (some ⟨b1, 0, none⟩) := hF 1 (by decide +kernel)
      have cc := (HB1.out.below hB HB1.out.lt).cell 0 _ rfl
      exact doesL_val rfl (v := .int .u32 (n : Int)) (by unfold execOp; simp only [e1]; go_simp) rfl
    . intro a w' hF hB hd
      have e9 : a.eval (.tmp 9) = .pointer (some ⟨s, 0, none⟩) := hd 4 (by decide +kernel)
      have e10 : a.eval (.tmp 10) = .int .u32 (n : Int) := hd 5 (by decide +kernel)
      exact doesL_call rfl (ex_call (vs := #[.pointer (some ⟨s, 0, none⟩), .int .u32 (n : Int)]) rfl (by simp only [List.map_toArray, List.map_cons, List.map_nil, e9, e10]) (by go_simp)) ((HSE.out w' hB).mono fun e w3 hh => ⟨_, hh.1, rfl, hh.2⟩)
    . intro a w' hF hB hd
      have e2 : a.eval (.tmp 2) = .pointer (some ⟨b2, 0, none⟩) := hF 2 (by decide +kernel)
      have cc := (HB2.out.below hB HB2.out.lt).cell 0 _ rfl
      exact doesL_val rfl (v := .slice ba bl bc) (by unfold execOp; simp only [e2]; go_simp) rfl
    . intro a w' hF hB hd
      have e8 : a.eval (.tmp 8) = .pointer (some ⟨x, 0, none⟩) := hd 3 (by decide +kernel)
      have e11 : a.eval (.tmp 11) = .int .u64 (Q : Int) := hd 6 (by decide +kernel)
      have e12 : a.eval (.tmp 12) = .slice ba bl bc := hd 7 (by decide +kernel)
      exact doesL_call rfl (ex_call (vs := #[.pointer (some ⟨x, 0, none⟩), .int .u64 (Q : Int), .slice ba bl bc]) rfl (by simp only [List.map_toArray, List.map_cons, List.map_nil, e8, e11, e12]) (by go_simp)) ((HPD.out w' hB).mono fun e w3 hh => by obtain ⟨y, he, hr, hn, hb⟩ := hh; exact ⟨_, he, ⟨y, rfl, hr, fun g hg => Nat.le_trans hB.size (hn g hg)⟩, hb⟩)
    . intro a w' hF hB hd
      obtain ⟨y, e13, hy, ny⟩ : ∃ y, a.eval (.tmp 13) = .tuple #[y, .int .i64 E] /\ Rd w' y L /\ NewB w y := hd 8 (by decide +kernel)
      exact doesL_val rfl (v := y) (by unfold execOp; simp only [e13]; rfl) ⟨hy, ny⟩
    . intro a w' hF hB hd
      obtain ⟨y, e13, hy, ny⟩ : ∃ y, a.eval (.tmp 13) = .tuple #[y, .int .i64 E] /\ Rd w' y L /\ NewB w y := hd 8 (by decide +kernel)
      exact doesL_val rfl (v := .int .i64 E) (by unfold execOp; simp only [e13]; rfl) rfl
    . intro a w' hF hB hd
      have e14 : Rd w' (a.eval (.tmp 14)) L /\ NewB w (a.eval (.tmp 14)) := hd 9 (by decide +kernel)
      exact doesL_val rfl (ex_assign rfl rfl) e14
  . intro vs w4 hB hv
    have e15 : vs 10 = .int .i64 E := hv 10 (by decide)
    obtain ⟨r3, n3⟩ : Rd w4 (vs 11) L /\ NewB w (vs 11) := hv 11 (by decide)
    obtain ⟨ya, yc, e3, _⟩ := r3.shape
    rw [e3] at r3 n3
    have R3 := Lib.hid r3
    have N3 := Lib.hid n3
    have W4 := Lib.hid hB
    simp only [List.take_succ_cons, List.take_zero, List.drop_succ_cons, List.drop_zero, putOps, Act.put, List.setIfInBounds_toArray, List.set_cons_zero, List.set_cons_succ, e15, e3]
    clear hv e15 e3 r3 n3 hB
    generalize vs 0 = z0
    generalize vs 1 = z1
    generalize vs 2 = z2
    generalize vs 3 = z3
    generalize vs 4 = z4
    generalize vs 5 = z5
    generalize vs 6 = z6
    generalize vs 7 = z7
    generalize vs 8 = z8
    generalize vs 9 = z9
    go_wp2_with fail
    go_ret2
    exact ⟨_, rfl, R3.out, N3.out, W4.out⟩
end Go.Proofs.YtflnodkajhokhaaDoor
end

section
namespace Go.Proofs.YtflnodkajhokhaaDoor
open Go.ChangeShapes Go.WideShapes Go.ChangeAt Go.RowKit
open RT SM
theorem pc_tail (r : Pg) : ∀ (j : Nat) v, (row8 r.sum)[j]? = some v -> (pc r)[1 + j]? = some v := fun j v hv => by
  unfold pc
  rw [Nat.add_comm, List.getElem?_cons_succ]
  exact hv
end Go.Proofs.YtflnodkajhokhaaDoor
end

section
namespace Go.Proofs.YtflnodkajhokhaaDoor
open Go.ChangeShapes Go.WideShapes Go.ChangeAt Go.RowKit
open RT XM AM SM
def SP.seen (p : SP.Sp) (S : DM.DS) (r : Pg) (m : List Nat) : List Nat × Int := if (SP.raw p S r).2 ≠ 0 then ([], (SP.raw p S r).2) else if m ≠ r.sum then ([], 40) else ((SP.raw p S r).1, 0)
theorem told_zero {e : Int} : SP.told e = 0 ↔ e = 0 := by
  unfold SP.told
  split
  . rename_i h; subst h; exact ⟨fun q => absurd q (by decide), fun q => absurd q (by decide)⟩
  . exact Iff.rfl
set_option maxRecDepth 100000 in
set_option maxHeartbeats 4000000 in
theorem spcread_any {Z : Nat -> Prop} {s d : Nat} {p : SP.Sp} (hp : SP.Ok p) (B : Nat) (A : Nat -> Prop) (S : DM.DS) (w : World) (hd : Dev B A w d S) (ht : Tame S) (h : Spa Z w s d p) (r : Pg) (hr : Pok r) (G : FuncId) (gs : Array Value) (fm : List Nat) (hf : Bytes 32 fm)
    (hG : ∀ v W, (callFunc G (#[v] ++ gs)).run Tryd.prog W = .ok (.enter G (#[v] ++ gs)) W)
    (hS : 1 <= r.at_ -> r.at_ <= 65536 -> ∀ W v, Below w.heap.size w W -> Rd W v (SP.raw p S r).1 -> Calls Tryd.prog G (#[v] ++ gs) W fun e W' => e = .returned (.agg (row8 fm).toArray) /\ Below W.heap.size W W') :
    Calls Tryd.prog 42 #[.pointer (some ⟨s, 0, none⟩), .agg (pc r).toArray, .func (.func G) #[] gs] w fun e w' => ∃ y, e = .returned (.tuple #[y, .int .i64 (SP.seen p S r fm).2]) /\ Own w' w.heap.size y (SP.seen p S r fm).1 /\ Below w.heap.size w w' := by
  have HA0 := Lib.hid (show (pc r)[0]? = some (.int .u32 (r.at_ : Int)) from rfl)
  have HSR := Lib.hid (fun W (h : Blk W w.heap.size 37 (pc r)) => (show W.rangeAt w.heap.size 1 (row8 r.sum) from range_part h 1 _ (pc_tail r)))
  have hat := hr.1
  obtain ⟨w1, hw1⟩ : ∃ x, x = w.alloc (.cells (pc r).toArray 37) := ⟨_, rfl⟩
  have W1 := Lib.hid (show Below w.heap.size w w1 by rw [hw1]; exact (Below.refl w.heap.size w).alloc (Nat.le_refl _) (.cells (pc r).toArray 37))
  have R1 := Lib.hid (show Blk w1 w.heap.size 37 (pc r) by rw [hw1]; exact Blk.new w 37 (pc r) _ rfl)
  unfold SP.seen
  by_cases hat0 : r.at_ = 0
  . have hraw : SP.raw p S r = ([], 2) := by unfold SP.raw; rw [if_pos (.inl hat0)]
    rw [hraw, if_pos (by decide)]
    have c0 := R1.out.cell 0 _ HA0.out
    rw [hat0] at c0
    obtain ⟨RC, hRC⟩ : ∃ x, x = pc r := ⟨_, rfl⟩
    rw [<- hRC] at hw1 ⊢
    clear hRC hr hS hG hf h ht hd hp HSR HA0 hraw hat R1 hat0
    go_enter Tryd.func42, Tryd.ntmps42
    go_upto_region 1 with fail
    rw [<- hw1]
    clear hw1
    go_wp2_with fail
    go_ret2
    exact ⟨_, rfl, Own.none_ _ _, W1.out⟩
  by_cases hat6 : 65536 < r.at_
  . have hraw : SP.raw p S r = ([], 2) := by unfold SP.raw; rw [if_pos (.inr hat6)]
    rw [hraw, if_pos (by decide)]
    have c0 := R1.out.cell 0 _ HA0.out
    have hz0 : ((r.at_ : Int) == 0) = false := by rw [beq_eq_false_iff_ne]; omega
    have hz1 : (65536 : Int) < (r.at_ : Int) := by omega
    have hne : ¬ (r.at_ : Int) = 0 := by omega
    obtain ⟨RC, hRC⟩ : ∃ x, x = pc r := ⟨_, rfl⟩
    rw [<- hRC] at hw1 ⊢
    clear hRC hr hS hG hf h ht hd hp HSR HA0 hraw hat R1 hat0
    go_enter Tryd.func42, Tryd.ntmps42
    go_upto_region 1 with fail
    rw [<- hw1]
    clear hw1
    go_wp2_with fail
    go_ret2
    exact ⟨_, rfl, Own.none_ _ _, W1.out⟩
  obtain ⟨m, hm⟩ : ∃ m, r.at_ = m + 1 := ⟨r.at_ - 1, by omega⟩
  have hm5 : m <= 65535 := by omega
  have hraw : SP.raw p S r = ((DM.read S (SP.place p m) (SP.size p)).1, SP.told (DM.read S (SP.place p m) (SP.size p)).2) := by
    unfold SP.raw
    rw [if_neg (by omega), show r.at_ - 1 = m by omega]
  rw [hraw] at hS ⊢
  simp only at hS ⊢
  have hpl := SP.place_le hp hm5
  have hsz : SP.size p <= 1024 := by unfold SP.size; have := hp.per; omega
  have HP := Lib.hid (fun W => suplace_any (p.cl : Int) (p.per : Int) m (by omega) W)
  rw [SP.su_place hp hm5] at HP
  have HC0 := Lib.hid (fun W (hW : Below w1.heap.size w1 W) => (show W.cell? ⟨s, 0, none⟩ = some (.pointer (some ⟨d, 0, none⟩)) by obtain ⟨x, c0, _⟩ := (h.below (W1.out.on hW)).cells; exact c0))
  have HGC := Lib.hid (fun W (hW : Below w1.heap.size w1 W) => (h.below (W1.out.on hW)).geo)
  have HSI := Lib.hid (fun W (hW : Below w1.heap.size w1 W) => (spsize_any hp (h.below (W1.out.on hW))).mono fun e w' hh => (show e = .returned (.int .i64 (SP.size p : Int)) /\ Below W.heap.size W w' from ⟨hh.1, by rw [hh.2]; exact Below.refl _ _⟩))
  have HRD := Lib.hid (fun W (hW : Below w1.heap.size w1 W) => dev_read B A d S W (hd.below (W1.out.on hW)) ht (SP.place p m : Int) (SP.size p : Int) ⟨by omega, by omega⟩ ⟨by omega, by omega⟩)
  have HS := Lib.hid (hS (by omega) (by omega))
  have HG := Lib.hid hG
  have HWM := Lib.hid (show IntKind.u32.wrap (((m + 1 : Nat) : Int) - 1) = (m : Int) by rw [IntKind.wrap_u32]; omega)
  have HNQ := Lib.hid (fun W => run_neq_sum hf hr.2 W)
  have SM32 := Lib.hid (show (row8 r.sum).length = 32 by rw [row8_len]; exact hr.2.1)
  obtain ⟨NB, hNB⟩ : ∃ x : Bool, x = !decide (fm = r.sum) := ⟨_, rfl⟩
  have HNT := Lib.hid (show NB = true -> fm ≠ r.sum from fun h q => by rw [hNB, decide_eq_true q] at h; cases h)
  have HNF := Lib.hid (show NB = false -> ¬ fm ≠ r.sum from fun h q => by rw [hNB, decide_eq_false q] at h; cases h)
  rw [<- hNB] at HNQ
  obtain ⟨SMC, hSMC⟩ : ∃ x, x = row8 r.sum := ⟨_, rfl⟩
  rw [<- hSMC] at HSR HNQ SM32
  obtain ⟨FM, hFM⟩ : ∃ x, x = row8 fm := ⟨_, rfl⟩
  rw [<- hFM] at HS HNQ
  obtain ⟨RB, hRB⟩ : ∃ x, x = (DM.read S (SP.place p m) (SP.size p)).1 := ⟨_, rfl⟩
  obtain ⟨E1, hE1⟩ : ∃ x, x = (DM.read S (SP.place p m) (SP.size p)).2 := ⟨_, rfl⟩
  rw [<- hRB] at HRD HS ⊢
  rw [<- hE1] at HRD ⊢
  obtain ⟨PL, hPL⟩ : ∃ x, x = SP.place p m := ⟨_, rfl⟩
  obtain ⟨SZ, hSZ⟩ : ∃ x, x = SP.size p := ⟨_, rfl⟩
  rw [<- hPL] at HP HRD hpl
  rw [<- hSZ] at HSI HRD hsz
  obtain ⟨GC, hGC⟩ : ∃ x, x = [Value.int .i64 (p.cl : Int), .int .i64 (p.per : Int)] := ⟨_, rfl⟩
  have GC2 := Lib.hid (show GC.length = 2 by rw [hGC]; rfl)
  rw [<- hGC] at HGC
  rw [show (#[Value.int .i64 (p.cl : Int), .int .i64 (p.per : Int)] : Array Value) = GC.toArray by rw [hGC]] at HP
  obtain ⟨at_, hat_⟩ : ∃ x, x = r.at_ := ⟨_, rfl⟩
  have c0 := R1.out.cell 0 _ HA0.out
  rw [<- hat_] at HA0 hat0 hat6 hm hat c0
  have hz0 : ((at_ : Int) == 0) = false := by rw [beq_eq_false_iff_ne]; omega
  have hne : ¬ (at_ : Int) = 0 := by omega
  have hz1 : ¬ (65536 : Int) < (at_ : Int) := by omega
  rw [<- hm] at HWM
  obtain ⟨PR, hPR⟩ : ∃ x : List Nat × Int, x = (if SP.told E1 ≠ 0 then ([], SP.told E1) else if fm ≠ r.sum then ([], 40) else (RB, 0)) := ⟨_, rfl⟩
  rw [<- hPR]
  have HPR := Lib.hid hPR
  obtain ⟨RC, hRC⟩ : ∃ x, x = pc r := ⟨_, rfl⟩
  rw [<- hRC] at HA0 R1 HSR hw1 ⊢
  have HD := Lib.hid (Below.refl w1.heap.size w1)
  clear hRC hPR hat_ hGC hSZ hPL hE1 hRB hFM hSMC hNB hraw hr hS hG hf h ht hd hp hm5 hm hat0 hat6
  go_enter Tryd.func42, Tryd.ntmps42
  go_upto_region 1 with fail
  rw [<- hw1]
  clear hw1
  go_upto_region 5 with fail
  refine wp_region_l (by kernel_rfl) 19 (by decide) (by kernel_rfl) (by kernel_rfl) (by kernel_rfl) [.val (.pointer (some ⟨s, 0, none⟩)), .val (.pointer (some ⟨s, 0, none⟩)), .val (.pointer (some ⟨s, 0, none⟩)), .val (.pointer (some ⟨d, 0, none⟩)), .val (.pointer (some ⟨s, 0, none⟩)), .val (.pointer (some ⟨s, 0, none⟩)), .val (.pointer (some ⟨s, 1, none⟩)), .val (.agg GC.toArray), .val (.pointer (some ⟨w.heap.size, 0, none⟩)), .val (.int .u32 (at_ : Int)), .val (.int .u32 (m : Int)), .val (.int .i64 (PL : Int)), .val (.pointer (some ⟨s, 0, none⟩)), .val (.int .i64 (SZ : Int)), ⟨fun v W => ∃ y, v = .tuple #[y, .int .i64 E1] /\ Own W w.heap.size y RB, fun h k => by obtain ⟨y, e, g⟩ := h; exact ⟨y, e, g.below k⟩⟩, ⟨fun v W => ∃ y, v = .tuple #[y, .int .i64 E1] /\ Own W w.heap.size y RB, fun h k => by obtain ⟨y, e, g⟩ := h; exact ⟨y, e, g.below k⟩⟩, ⟨fun v W => Own W w.heap.size v RB, fun h k => h.below k⟩, .val (.int .i64 E1), ⟨fun v W => Own W w.heap.size v RB, fun h k => h.below k⟩] ?_ ?_
  . refine ⟨?_, ?_, ?_, ?_, ?_, ?_, ?_, ?_, ?_, ?_, ?_, ?_, ?_, ?_, ?_, ?_, ?_, ?_, ?_, trivial⟩
    . intro a w' hF hB hd
      have e0 : a.eval (.tmp 0) = .pointer (some ⟨s, 0, none⟩) := hF 0 (by decide +kernel)
      exact doesL_val rfl (ex_move rfl e0) rfl
    . intro a w' hF hB hd
      have e23 : a.eval (.tmp 23) = .pointer (some ⟨s, 0, none⟩) := hd 0 (by decide +kernel)
      exact doesL_val rfl (ex_nilCheck rfl e23) rfl
    . intro a w' hF hB hd
      have e24 : a.eval (.tmp 24) = .pointer (some ⟨s, 0, none⟩) := hd 1 (by decide +kernel)
      exact doesL_val rfl (ex_fieldAddr rfl e24 (by go_simp)) rfl
    . intro a w' hF hB hd
      have e25 : a.eval (.tmp 25) = .pointer (some ⟨s, 0, none⟩) := hd 2 (by decide +kernel)
      have cc := HC0.out w' hB
      exact doesL_val rfl (v := .pointer (some ⟨d, 0, none⟩)) (by unfold execOp; simp only [e25]; go_simp) rfl
    . intro a w' hF hB hd
      have e0 : a.eval (.tmp 0) = .pointer (some ⟨s, 0, none⟩) := hF 0 (by decide +kernel)
      exact doesL_val rfl (ex_move rfl e0) rfl
    . intro a w' hF hB hd
      have e27 : a.eval (.tmp 27) = .pointer (some ⟨s, 0, none⟩) := hd 4 (by decide +kernel)
      exact doesL_val rfl (ex_nilCheck rfl e27) rfl
    . intro a w' hF hB hd
      have e28 : a.eval (.tmp 28) = .pointer (some ⟨s, 0, none⟩) := hd 5 (by decide +kernel)
      exact doesL_val rfl (ex_fieldAddr rfl e28 (by go_simp)) rfl
    . intro a w' hF hB hd
      have e29 : a.eval (.tmp 29) = .pointer (some ⟨s, 1, none⟩) := hd 6 (by decide +kernel)
      exact doesL_val rfl (ex_load_part 33 (.tmp 29) rfl s 1 e29 GC _ (HGC.out w' hB) Tryd.underlying33 rfl (by rw [GC2.out]; exact infoGeoP)) rfl
    . intro a w' hF hB hd
      have e4 : a.eval (.tmp 4) = .pointer (some ⟨w.heap.size, 0, none⟩) := hF 4 (by decide +kernel)
      exact doesL_val rfl (ex_fieldAddr rfl e4 (by go_simp)) rfl
    . intro a w' hF hB hd
      have e31 : a.eval (.tmp 31) = .pointer (some ⟨w.heap.size, 0, none⟩) := hd 8 (by decide +kernel)
      have cc := (R1.out.below hB R1.out.lt).cell 0 _ HA0.out
      exact doesL_val rfl (v := .int .u32 (at_ : Int)) (by unfold execOp; simp only [e31]; go_simp) rfl
    . intro a w' hF hB hd
      have e32 : a.eval (.tmp 32) = .int .u32 (at_ : Int) := hd 9 (by decide +kernel)
      exact doesL_val rfl (ex_binOp rfl e32 rfl (by go_simp) (by have hwm := HWM.out; go_simp)) rfl
    . intro a w' hF hB hd
      have e30 : a.eval (.tmp 30) = .agg GC.toArray := hd 7 (by decide +kernel)
      have e33 : a.eval (.tmp 33) = .int .u32 (m : Int) := hd 10 (by decide +kernel)
      exact doesL_call rfl (ex_call (vs := #[.agg GC.toArray, .int .u32 (m : Int)]) rfl (by simp only [List.map_toArray, List.map_cons, List.map_nil, e30, e33]) (by go_simp)) ((HP.out w').mono fun e w3 hh => ⟨_, hh.1, rfl, hh.2⟩)
    . intro a w' hF hB hd
      have e0 : a.eval (.tmp 0) = .pointer (some ⟨s, 0, none⟩) := hF 0 (by decide +kernel)
      exact doesL_val rfl (ex_move rfl e0) rfl
    . intro a w' hF hB hd
      have e35 : a.eval (.tmp 35) = .pointer (some ⟨s, 0, none⟩) := hd 12 (by decide +kernel)
      exact doesL_call rfl (ex_call (vs := #[.pointer (some ⟨s, 0, none⟩)]) rfl (by simp only [List.map_toArray, List.map_cons, List.map_nil, e35]) (by go_simp)) ((HSI.out w' hB).mono fun e w3 hh => ⟨_, hh.1, rfl, hh.2⟩)
    . intro a w' hF hB hd
      have e26 : a.eval (.tmp 26) = .pointer (some ⟨d, 0, none⟩) := hd 3 (by decide +kernel)
      have e34 : a.eval (.tmp 34) = .int .i64 (PL : Int) := hd 11 (by decide +kernel)
      have e36 : a.eval (.tmp 36) = .int .i64 (SZ : Int) := hd 13 (by decide +kernel)
      exact doesL_call rfl (ex_call (vs := #[.pointer (some ⟨d, 0, none⟩), .int .i64 (PL : Int), .int .i64 (SZ : Int)]) rfl (by simp only [List.map_toArray, List.map_cons, List.map_nil, e26, e34, e36]) (by go_simp)) ((HRD.out w' hB).mono fun e w3 hh => by obtain ⟨y, he, ho, hb⟩ := hh; exact ⟨_, he, ⟨y, rfl, ho.lower (Nat.le_trans (Nat.le_of_lt R1.out.lt) hB.size)⟩, hb⟩)
    . intro a w' hF hB hd
      obtain ⟨y, e37, hy⟩ : ∃ y, a.eval (.tmp 37) = .tuple #[y, .int .i64 E1] /\ Own w' w.heap.size y RB := hd 14 (by decide +kernel)
      exact doesL_val rfl (ex_move rfl e37) ⟨y, rfl, hy⟩
    . intro a w' hF hB hd
      obtain ⟨y, e22, hy⟩ : ∃ y, a.eval (.tmp 22) = .tuple #[y, .int .i64 E1] /\ Own w' w.heap.size y RB := hd 15 (by decide +kernel)
      exact doesL_val rfl (v := y) (by unfold execOp; simp only [e22]; rfl) hy
    . intro a w' hF hB hd
      obtain ⟨y, e22, hy⟩ : ∃ y, a.eval (.tmp 22) = .tuple #[y, .int .i64 E1] /\ Own w' w.heap.size y RB := hd 15 (by decide +kernel)
      exact doesL_val rfl (v := .int .i64 E1) (by unfold execOp; simp only [e22]; rfl) rfl
    . intro a w' hF hB hd
      have e38 : Own w' w.heap.size (a.eval (.tmp 38)) RB := hd 16 (by decide +kernel)
      exact doesL_val rfl (ex_assign rfl rfl) e38
  . intro vs w4 hB hv
    have e39 : vs 17 = .int .i64 E1 := hv 17 (by decide)
    have o8 : Own w4 w.heap.size (vs 18) RB := hv 18 (by decide)
    obtain ⟨ya, yc, e8, _⟩ := o8.rd.shape
    rw [e8] at o8
    have O4 := Lib.hid o8
    simp only [List.take_succ_cons, List.take_zero, List.drop_succ_cons, List.drop_zero, putOps, Act.put, List.setIfInBounds_toArray, List.set_cons_zero, List.set_cons_succ, e39, e8]
    have W4 := Lib.hid (W1.out.on hB)
    have R4 := Lib.hid (R1.out.below hB R1.out.lt)
    clear hv e39 e8 o8 hB c0
    generalize vs 0 = z0
    generalize vs 1 = z1
    generalize vs 2 = z2
    generalize vs 3 = z3
    generalize vs 4 = z4
    generalize vs 5 = z5
    generalize vs 6 = z6
    generalize vs 7 = z7
    generalize vs 8 = z8
    generalize vs 9 = z9
    generalize vs 10 = z10
    generalize vs 11 = z11
    generalize vs 12 = z12
    generalize vs 13 = z13
    generalize vs 14 = z14
    generalize vs 15 = z15
    generalize vs 16 = z16
    by_cases hE : E1 = 0
    . subst hE
      have HPT := Lib.hid (show NB = true -> PR = ([], 40) from fun h => by rw [HPR.out, if_neg (by decide), if_pos (HNT.out h)])
      have HPF := Lib.hid (show NB = false -> PR = (RB, 0) from fun h => by rw [HPR.out, if_neg (by decide), if_neg (HNF.out h)])
      clear HPR HNT HNF
      go_upto_region 8 with fail
      refine wp_region_l (by kernel_rfl) 6 (by decide) (by kernel_rfl) (by kernel_rfl) (by kernel_rfl) [.val (.func (.func G) #[] gs), .val (.slice ya RB.length yc), .val (.agg FM.toArray), .val (.pointer (some ⟨w.heap.size, 1, none⟩)), .val (.agg SMC.toArray), .val (.bool NB)] ?_ ?_
      . refine ⟨?_, ?_, ?_, ?_, ?_, ?_, trivial⟩
        . intro a w' hF hB hd
          have e2 : a.eval (.tmp 2) = .func (.func G) #[] gs := hF 2 (by decide +kernel)
          exact doesL_val rfl (ex_move rfl e2) rfl
        . intro a w' hF hB hd
          have e8 : a.eval (.tmp 8) = .slice ya RB.length yc := hF 8 (by decide +kernel)
          exact doesL_val rfl (ex_move rfl e8) rfl
        . intro a w' hF hB hd
          have e46 : a.eval (.tmp 46) = .func (.func G) #[] gs := hd 0 (by decide +kernel)
          have e47 : a.eval (.tmp 47) = .slice ya RB.length yc := hd 1 (by decide +kernel)
          exact doesL_call rfl (ex_call_cl (vs := #[.slice ya RB.length yc]) rfl e46 (by simp only [List.map_toArray, List.map_cons, List.map_nil, e47]) (HG.out _ _)) ((HS.out w' _ (W4.out.on hB) (O4.out.rd.below hB)).mono fun e w3 hh => ⟨_, hh.1, rfl, hh.2⟩)
        . intro a w' hF hB hd
          have e4 : a.eval (.tmp 4) = .pointer (some ⟨w.heap.size, 0, none⟩) := hF 4 (by decide +kernel)
          exact doesL_val rfl (ex_fieldAddr rfl e4 (by go_simp)) rfl
        . intro a w' hF hB hd
          have e49 : a.eval (.tmp 49) = .pointer (some ⟨w.heap.size, 1, none⟩) := hd 3 (by decide +kernel)
          exact doesL_val rfl (ex_load_part 35 (.tmp 49) rfl w.heap.size 1 e49 SMC _ (HSR.out _ (R4.out.below hB R4.out.lt)) Tryd.underlying35 rfl (by rw [SM32.out]; exact infoS)) rfl
        . intro a w' hF hB hd
          have e48 : a.eval (.tmp 48) = .agg FM.toArray := hd 2 (by decide +kernel)
          have e50 : a.eval (.tmp 50) = .agg SMC.toArray := hd 4 (by decide +kernel)
          exact doesL_val rfl (ex_binOp rfl e48 e50 (run_eqGuard_agg _ _ _ _ _ _ _ eqTypeS) (HNQ.out _)) rfl
      . intro vs w5 hB hv
        have e51 : vs 5 = .bool NB := hv 5 (by decide)
        simp only [List.take_succ_cons, List.take_zero, List.drop_succ_cons, List.drop_zero, putOps, Act.put, List.setIfInBounds_toArray, List.set_cons_zero, List.set_cons_succ, e51]
        have O5 := Lib.hid (O4.out.below hB)
        have W5 := Lib.hid (W4.out.on hB)
        clear hv e51 hB
        generalize vs 0 = y0
        generalize vs 1 = y1
        generalize vs 2 = y2
        generalize vs 3 = y3
        generalize vs 4 = y4
        cases NB with
        | true =>
          go_wp2_with fail
          go_ret2
          exact ⟨.slice none 0 0, by rw [HPT.out (by first | trivial | rfl)]; rfl, by rw [HPT.out (by first | trivial | rfl)]; exact Own.none_ _ _, W5.out⟩
        | false =>
          go_wp2_with fail
          go_ret2
          exact ⟨.slice ya RB.length yc, by rw [HPF.out (by first | trivial | rfl)]; rfl, by rw [HPF.out (by first | trivial | rfl)]; exact O5.out, W5.out⟩
    . have hEb : (E1 == 0) = false := by rw [beq_eq_false_iff_ne]; exact hE
      have HPE := Lib.hid (show PR = ([], SP.told E1) by rw [HPR.out, if_pos (fun q => hE (told_zero.1 q))])
      have HFA := Lib.hid (fun W => spfaulted_any E1 W)
      obtain ⟨TE, hTE⟩ : ∃ x, x = SP.told E1 := ⟨_, rfl⟩
      rw [<- hTE] at HFA HPE
      clear HPR HNT HNF hTE
      go_wp2_with (go_at_call 34; (with_reducible refine (HFA.out _).mono ?_); rintro e w5 ⟨rfl, rfl⟩)
      go_ret2
      exact ⟨.slice none 0 0, by rw [HPE.out]; rfl, by rw [HPE.out]; exact Own.none_ _ _, W4.out⟩
end Go.Proofs.YtflnodkajhokhaaDoor
end

section
namespace Go.Proofs.YtflnodkajhokhaaDoor
open Go.ChangeShapes Go.WideShapes Go.ChangeAt Go.RowKit
open DM
def SP.beg : DS := DM.load (DM.new 32768) (List.replicate 16384 0)
theorem SP.beg_ok : DM.Ok SP.beg := (DM.Ok.new 32768).load _ (bytes_zero 16384).2
theorem SP.beg_eq : SP.beg = { DM.new 32768 with seen := List.replicate 16384 0, safe := List.replicate 16384 0, loose := [] } := by
  unfold SP.beg DM.load
  rw [if_neg (by rw [List.length_replicate]; exact (by decide : ¬ (DM.new 32768).most < 16384))]
theorem SP.beg_tame : Tame SP.beg := by
  refine ⟨SP.beg_ok, ?_, ?_, ?_⟩
  . rw [SP.beg_eq]; exact Nat.zero_le _
  . rw [SP.beg_eq]; exact Nat.zero_le _
  . rw [SP.beg_eq]; show 0 <= _; omega
theorem SP.beg_seen : SP.beg.seen = List.replicate 16384 0 := by rw [SP.beg_eq]
theorem SP.beg_most : SP.beg.most = 32768 := by rw [SP.beg_eq]; exact (by decide : (DM.new 32768).most = 32768)
theorem Dev.less {B : Nat} {A A' : Nat -> Prop} {w : World} {d : Nat} {S : DS} (h : Dev B A w d S) (k : ∀ i, A' i -> A i) : Dev B A' w d S := by
  obtain ⟨F, R, hd, h1, h2, h3, h4⟩ := h
  exact ⟨F, R, hd, h1, fun i hi q => h2 i hi (k i q), fun i q => h3 i (k i q), h4⟩
set_option maxHeartbeats 1000000 in
theorem begun_any (B : Nat) (w : World) (hB : B <= w.heap.size) : Calls Tryd.prog 4 #[] w fun e w' => ∃ d, e = .returned (.pointer (some ⟨d, 0, none⟩)) /\ Dev B (fun k => B <= k /\ k < w.heap.size) w' d SP.beg /\ Below w.heap.size w w' := by
  have HN := Lib.hid (dev_new 32768 ⟨by decide, by decide⟩ B w hB)
  have HT := Lib.hid (⟨Ok.new 32768, Nat.zero_le _, Nat.zero_le _, by show 0 <= _; omega⟩ : Tame (DM.new 32768))
  have HB := Lib.hid hB
  obtain ⟨S, hS⟩ : ∃ S, S = SP.beg := ⟨_, rfl⟩
  have HS := Lib.hid hS
  rw [<- hS]
  obtain ⟨S0, hS0⟩ : ∃ S, S = DM.new 32768 := ⟨_, rfl⟩
  rw [<- hS0] at HN HT
  have HL := Lib.hid (show S = DM.load S0 (List.replicate 16384 0) by rw [hS, hS0]; rfl)
  clear hS hS0 hB
  go_enter Tryd.func4, Tryd.ntmps4
  go_wp2_with (first
    | (go_at_call 12; (with_reducible refine HN.out.mono ?_); rintro e w1 ⟨d, rfl, hd, b1⟩; have D1 := Lib.hid hd; have B1 := Lib.hid b1; clear hd b1)
    | (refine wpList_make_bytes rfl _ _ rfl w1.heap.size 16384 (by decide) rfl rfl (Nat.le_refl _) ?_; intro w2 o2 b2; have O2 := Lib.hid o2; have B2 := Lib.hid b2; have D2 := Lib.hid (D1.out.own b2); have N2 := Lib.hid (World.block_lt_of_cell? w2 _ (o2.cell (by rw [List.length_replicate]) 0 (by rw [List.length_replicate]; decide))); clear o2 b2)
    | (go_at_call 6; (refine (dev_load B _ d S0 _ D2.out HT.out _ _ O2.out.rd (fun _ g hg => by obtain rfl := Option.some.inj hg; exact .inr (.inr ⟨Nat.le_refl _, N2.out⟩))).mono ?_); rintro e w3 ⟨rfl, hd, hk⟩; have D3 := Lib.hid hd; have K3 := Lib.hid hk; clear hd hk))
  go_ret
  have b12 := B1.out.on B2.out
  refine ⟨d, rfl, by rw [HL.out]; exact D3.out.less (fun k hk => .inl hk), K3.out.os.trans b12.os, K3.out.tape.trans b12.tape, K3.out.output.trans b12.output, Nat.le_trans b12.size K3.out.size, fun k hk => (K3.out.block k (Nat.lt_of_lt_of_le hk b12.size) ?_).trans (b12.block k hk)⟩
  rcases Nat.lt_or_ge k B with q | q
  . exact .inl q
  . exact .inr (.inl ⟨q, hk⟩)
end Go.Proofs.YtflnodkajhokhaaDoor
end

section
namespace Go.Proofs.YtflnodkajhokhaaDoor
open Go.ChangeShapes Go.WideShapes Go.ChangeAt Go.RowKit
open RT XM AM SM
theorem infoRfQ : (Tryd.prog.info? 37).map (·.size) = some 33 := by kernel_rfl
theorem Rd.in_ {w : World} {v : Value} {l : List Nat} (h : Rd w v l) (hl : 0 < l.length) : ∀ g, v.ownBlock = some g -> g < w.heap.size := by
  intro g e
  rcases h.form with ⟨_, q⟩ | ⟨ad, cap, e2, _, hc⟩
  . rw [q] at hl; exact absurd hl (by decide)
  . rw [e2] at e
    have e3 : ad.block = g := Option.some.inj e
    have h0 := hc 0 hl
    have h1 : ad.add 0 = ad := rfl
    rw [h1] at h0
    rw [<- e3]
    exact World.block_lt_of_cell? w _ h0
theorem Dev.old {B : Nat} {A : Nat -> Prop} {w : World} {d : Nat} {S : DM.DS} (h : Dev B A w d S) : ∀ k, k < B \/ A k -> k < w.heap.size := by
  obtain ⟨F, R, hd, h1, h2, h3, h4⟩ := h
  exact fun k hk => hk.elim (fun q => Nat.lt_of_lt_of_le q h4) (h3 k)
theorem Kept.of_grown {B : Nat} {A : Nat -> Prop} {w w' : World} {g : Nat} (h : w.grownBy w' (some g)) (hg : ∀ k, k < B \/ A k -> k ≠ g) : Kept B A w w' := ⟨h.os, h.tape, h.output, h.size, fun k hk q => h.block k hk (fun e => hg k q (Option.some.inj e))⟩
def SP.pput (p : SP.Sp) (S : DM.DS) (n : Nat) (me : Int) (mb fm : List Nat) : DM.DS × Pg × Int :=
  if 65535 < n then (S, ND.zp, 2) else if me ≠ 0 \/ mb.length ≠ SP.size p then (S, ND.zp, 2) else SP.put p S n mb fm
def PwA (w2 : World) (B : Nat) (A2 : Nat -> Prop) (d : Nat) (S1 : DM.DS) : Nat -> Told -> World -> Prop
  | 0, _, W => Below w2.heap.size w2 W
  | 1, _, W => Below w2.heap.size w2 W
  | _, _, W => Dev B A2 W d S1 /\ Kept B A2 w2 W
set_option maxRecDepth 100000 in
set_option maxHeartbeats 4000000 in
theorem spcput_any {Z : Nat -> Prop} {s d : Nat} {p : SP.Sp} (hp : SP.Ok p) (B : Nat) (A : Nat -> Prop) (S : DM.DS) (w : World) (hd : Dev B A w d S) (ht : Tame S) (h : Spa Z w s d p) (n : Nat) (hn32 : n < 4294967296) (F G : FuncId) (fs gs : Array Value) (me : Int) (mb fm : List Nat) (hf : Bytes 32 fm)
    (hF : ∀ W, (callFunc F (#[] ++ fs)).run Tryd.prog W = .ok (.enter F (#[] ++ fs)) W) (hG : ∀ v W, (callFunc G (#[v] ++ gs)).run Tryd.prog W = .ok (.enter G (#[v] ++ gs)) W)
    (hM : n <= 65535 -> ∀ W, Below w.heap.size w W -> Calls Tryd.prog F (#[] ++ fs) W fun e W' => ∃ y, e = .returned (.tuple #[y, .int .i64 me]) /\ Rd W' y mb /\ NewB W y /\ Below W.heap.size W W')
    (hS : n <= 65535 -> ∀ W v, Kept B A w W -> Rd W v mb -> mb.length = SP.size p -> Calls Tryd.prog G (#[v] ++ gs) W fun e W' => e = .returned (.agg (row8 fm).toArray) /\ Below W.heap.size W W') :
    Calls Tryd.prog 17 #[.pointer (some ⟨s, 0, none⟩), .int .u32 (n : Int), .func (.func F) #[] fs, .func (.func G) #[] gs] w fun e w' => e = .returned (.tuple #[.agg (pc (SP.pput p S n me mb fm).2.1).toArray, .int .i64 (SP.pput p S n me mb fm).2.2]) /\ Dev B A w' d (SP.pput p S n me mb fm).1 /\ Kept B A w w' := by
  have HOL := Lib.hid hd.old
  have HFR := Lib.hid (fun k (hk : k < B \/ A k) => (show k ≠ w.heap.size from fun e => by have := hd.old k hk; omega))
  obtain ⟨RZ, hRZ⟩ : ∃ x, x = pc ND.zp := ⟨_, rfl⟩
  have hz : ∀ w, (zeroValue 37).run Tryd.prog w = .ok (.agg RZ.toArray) w := by rw [hRZ]; exact zeroRfP
  have hbr : Tryd.prog.built 37 [] = some RZ.toArray := by rw [hRZ]; exact builtRfP
  have RZ33 := Lib.hid (show RZ.length = 33 by rw [hRZ]; exact pc_len ND.zp_ok)
  have RZ1 := Lib.hid (show (RZ.toArray.all (·.oneCell')) = true by rw [hRZ]; exact one_pg _)
  obtain ⟨w1, hw1⟩ : ∃ x, x = w.alloc (.cells RZ.toArray 37) := ⟨_, rfl⟩
  have W1 := Lib.hid (show Below w.heap.size w w1 by rw [hw1]; exact (Below.refl w.heap.size w).alloc (Nat.le_refl _) (.cells RZ.toArray 37))
  have R1 := Lib.hid (show Blk w1 w.heap.size 37 RZ by rw [hw1]; exact Blk.new w 37 RZ _ rfl)
  have HD := Lib.hid hd
  unfold SP.pput
  by_cases hn : 65535 < n
  . rw [if_pos hn]
    have hni : (65535 : Int) < (n : Int) := by omega
    rw [<- hRZ]
    clear hRZ hM hS hF hG hf h ht hd hp hn32 hn
    go_enter Tryd.func17, Tryd.ntmps17
    go_upto_region 1 with fail
    rw [<- hw1]
    clear hw1
    go_wp2_with (first
      | ((with_reducible show wpList _ _ _ (Oper.mk (some 20) (.build _ _) _ _ _ _ :: _) _ _); refine wpList_wanted rfl (.agg RZ.toArray) (ex_build0 rfl hbr) ?_)
      | ((with_reducible show wpList _ _ _ (Oper.mk _ (.store _ (.tmp 8) (.tmp 20)) _ _ _ _ :: _) _ _); refine wpList_store_blk rfl 37 (.tmp 8) (.tmp 20) rfl w.heap.size 0 RZ rfl rfl 37 RZ R1.out (by rw [Nat.zero_add]; exact Nat.le_refl _) (by rw [RZ33.out]; exact infoRfQ) (RZ1.out) ?_; intro w2 b' g'; rw [splice_all _ _ (by rfl)] at b'; have U := Lib.hid b'; have GRU := Lib.hid g'; clear b' g'))
    refine bodyPost_ret (results_mid2 rfl _ _ w.heap.size RZ _ rfl U.out.range Tryd.underlying37 rfl (by rw [RZ33.out]; exact infoRfQ)) rfl ?_
    exact ⟨rfl, ((HD.out.own W1.out).turn GRU.out (fun g e => .inr (by rw [<- Option.some.inj e]; exact ⟨Nat.le_refl _, R1.out.lt⟩))).less (fun _ q => .inl q), (Kept.of_below W1.out).trans (Kept.of_grown GRU.out HFR.out)⟩
  rw [if_neg hn]
  have hn5 : n <= 65535 := by omega
  have hng : ¬ (65535 : Int) < (n : Int) := by omega
  have HF := Lib.hid hF
  have HG := Lib.hid hG
  have HM := Lib.hid (hM hn5)
  have HS := Lib.hid (hS hn5)
  have HSI := Lib.hid (fun W (hW : Below w.heap.size w W) => spsize_any hp (h.below hW))
  by_cases hme : me ≠ 0
  . rw [if_pos (.inl hme)]
    have hmb : (me == 0) = false := by rw [beq_eq_false_iff_ne]; exact hme
    have hme' : ¬ me = 0 := hme
    rw [<- hRZ]
    clear hRZ hM hS hF hG hf h ht hd hp hn32 hn hn5 hme HS HG HSI
    go_enter Tryd.func17, Tryd.ntmps17
    go_upto_region 1 with fail
    rw [<- hw1]
    clear hw1
    go_wp2_with (first
      | ((with_reducible show wpList _ _ _ (Oper.mk (some 23) (.call _) _ _ _ _ :: _) _ _); refine wpList_enter rfl (ex_call_cl (vs := #[]) rfl rfl (by simp) (HF.out _)) (HM.out w1 W1.out) ?_; rintro e w2 ⟨y, rfl, ry, ny, b2⟩; obtain ⟨ya, yc, rfl, _⟩ := ry.shape; refine ⟨_, rfl, ?_⟩; have RY := Lib.hid ry; have NY := Lib.hid ny; have W2 := Lib.hid (W1.out.on b2); have R2 := Lib.hid (R1.out.below b2 R1.out.lt); clear ry ny b2)
      | ((with_reducible show wpList _ _ _ (Oper.mk (some 35) (.build _ _) _ _ _ _ :: _) _ _); refine wpList_wanted rfl (.agg RZ.toArray) (ex_build0 rfl hbr) ?_)
      | ((with_reducible show wpList _ _ _ (Oper.mk _ (.store _ (.tmp 8) (.tmp 35)) _ _ _ _ :: _) _ _); refine wpList_store_blk rfl 37 (.tmp 8) (.tmp 35) rfl w.heap.size 0 RZ rfl rfl 37 RZ R2.out (by rw [Nat.zero_add]; exact Nat.le_refl _) (by rw [RZ33.out]; exact infoRfQ) (RZ1.out) ?_; intro w4 b' g'; rw [splice_all _ _ (by rfl)] at b'; have U := Lib.hid b'; have GRU := Lib.hid g'; clear b' g'))
    refine bodyPost_ret (results_mid2 rfl _ _ w.heap.size RZ _ rfl U.out.range Tryd.underlying37 rfl (by rw [RZ33.out]; exact infoRfQ)) rfl ?_
    exact ⟨rfl, ((HD.out.own W2.out).turn GRU.out (fun g e => .inr (by rw [<- Option.some.inj e]; exact ⟨Nat.le_refl _, R2.out.lt⟩))).less (fun _ q => .inl q), (Kept.of_below W2.out).trans (Kept.of_grown GRU.out HFR.out)⟩
  obtain rfl : me = 0 := by omega
  by_cases hsz : mb.length ≠ SP.size p
  . rw [if_pos (.inr hsz)]
    have hzb : ((mb.length : Int) == (SP.size p : Int)) = false := by rw [beq_eq_false_iff_ne]; omega
    have hzn : ¬ (mb.length : Int) = (SP.size p : Int) := by omega
    rw [<- hRZ]
    obtain ⟨SZ, hSZ⟩ : ∃ x, x = SP.size p := ⟨_, rfl⟩
    rw [<- hSZ] at HSI hzb hzn
    clear hRZ hM hS hF hG hf h ht hd hp hn32 hn hn5 hme HS HG hSZ hsz
    go_enter Tryd.func17, Tryd.ntmps17
    go_upto_region 1 with fail
    rw [<- hw1]
    clear hw1
    go_wp2_with (first
      | ((with_reducible show wpList _ _ _ (Oper.mk (some 23) (.call _) _ _ _ _ :: _) _ _); refine wpList_enter rfl (ex_call_cl (vs := #[]) rfl rfl (by simp) (HF.out _)) (HM.out w1 W1.out) ?_; rintro e w2 ⟨y, rfl, ry, ny, b2⟩; obtain ⟨ya, yc, rfl, _⟩ := ry.shape; refine ⟨_, rfl, ?_⟩; have RY := Lib.hid ry; have NY := Lib.hid ny; have W2 := Lib.hid (W1.out.on b2); have R2 := Lib.hid (R1.out.below b2 R1.out.lt); clear ry ny b2)
      | (go_at_call 31; (with_reducible refine (HSI.out _ W2.out).mono ?_); rintro e w3 ⟨rfl, hw⟩; subst w3)
      | ((with_reducible show wpList _ _ _ (Oper.mk (some 35) (.build _ _) _ _ _ _ :: _) _ _); refine wpList_wanted rfl (.agg RZ.toArray) (ex_build0 rfl hbr) ?_)
      | ((with_reducible show wpList _ _ _ (Oper.mk _ (.store _ (.tmp 8) (.tmp 35)) _ _ _ _ :: _) _ _); refine wpList_store_blk rfl 37 (.tmp 8) (.tmp 35) rfl w.heap.size 0 RZ rfl rfl 37 RZ R2.out (by rw [Nat.zero_add]; exact Nat.le_refl _) (by rw [RZ33.out]; exact infoRfQ) (RZ1.out) ?_; intro w4 b' g'; rw [splice_all _ _ (by rfl)] at b'; have U := Lib.hid b'; have GRU := Lib.hid g'; clear b' g'))
    refine bodyPost_ret (results_mid2 rfl _ _ w.heap.size RZ _ rfl U.out.range Tryd.underlying37 rfl (by rw [RZ33.out]; exact infoRfQ)) rfl ?_
    exact ⟨rfl, ((HD.out.own W2.out).turn GRU.out (fun g e => .inr (by rw [<- Option.some.inj e]; exact ⟨Nat.le_refl _, R2.out.lt⟩))).less (fun _ q => .inl q), (Kept.of_below W2.out).trans (Kept.of_grown GRU.out HFR.out)⟩
  rw [if_neg (by omega)]
  have hmz : mb.length = SP.size p := by omega
  have hps : 512 <= SP.size p /\ SP.size p <= 1024 := by unfold SP.size; have := hp.per; omega
  have hpl := SP.place_le hp hn5
  have HP := Lib.hid (fun W => suplace_any (p.cl : Int) (p.per : Int) n hn32 W)
  rw [SP.su_place hp hn5] at HP
  have HSPA := Lib.hid h
  have HTM := Lib.hid ht
  have HSIZ := Lib.hid hps
  have HMZ := Lib.hid hmz
  have HPLB := Lib.hid hpl
  obtain ⟨m, hm⟩ : ∃ m, m = n + 1 := ⟨_, rfl⟩
  have HWN := Lib.hid (show IntKind.u32.wrap ((n : Int) + 1) = (m : Int) by rw [IntKind.wrap_u32]; omega)
  have hwn := HWN.out
  have HBU := Lib.hid (show Tryd.prog.built 37 [(0, .int .u32 (m : Int)), (1, .agg (row8 fm).toArray)] = some (pc ⟨n + 1, fm⟩).toArray by rw [hm]; exact built_refN _ hf)
  obtain ⟨NR, hNR⟩ : ∃ x, x = pc ⟨n + 1, fm⟩ := ⟨_, rfl⟩
  have NR33 := Lib.hid (show NR.length = 33 by rw [hNR]; exact pc_len (p := ⟨n + 1, fm⟩) ⟨by show n + 1 < 4294967296; omega, hf⟩)
  have NR1 := Lib.hid (show (NR.toArray.all (·.oneCell')) = true by rw [hNR]; exact one_pg _)
  rw [<- hNR] at HBU
  obtain ⟨FM, hFM⟩ : ∃ x, x = row8 fm := ⟨_, rfl⟩
  rw [<- hFM] at HS HBU
  obtain ⟨GC, hGC⟩ : ∃ x, x = [Value.int .i64 (p.cl : Int), .int .i64 (p.per : Int)] := ⟨_, rfl⟩
  have GC2 := Lib.hid (show GC.length = 2 by rw [hGC]; rfl)
  have HGC0 := Lib.hid hGC
  rw [show (#[Value.int .i64 (p.cl : Int), .int .i64 (p.per : Int)] : Array Value) = GC.toArray by rw [hGC]] at HP
  unfold SP.put SP.lay
  rw [if_neg hn]
  simp only
  obtain ⟨S1, hS1⟩ : ∃ x, x = (DM.write S (SP.place p n) mb).1 := ⟨_, rfl⟩
  obtain ⟨E1, hE1⟩ : ∃ x, x = (DM.write S (SP.place p n) mb).2 := ⟨_, rfl⟩
  rw [<- hS1, <- hE1]
  have HWR := Lib.hid (fun (A2 : Nat -> Prop) W v (hD : Dev B A2 W d S) (hv : Rd W v mb) (hg : ∀ g, v.ownBlock = some g -> g < B \/ A2 g) => (show Calls Tryd.prog 32 #[.pointer (some ⟨d, 0, none⟩), .int .i64 (SP.place p n : Int), v] W fun e w' => e = .returned (.int .i64 E1) /\ Dev B A2 w' d S1 /\ Kept B A2 W w' by
    rw [hS1, hE1]; exact dev_write B A2 d S W hD ht (SP.place p n : Int) ⟨by omega, by omega⟩ v mb hv (by omega) (fun _ => hg)))
  obtain ⟨PL, hPL⟩ : ∃ x, x = SP.place p n := ⟨_, rfl⟩
  rw [<- hPL] at HP HWR
  obtain ⟨SZ, hSZ⟩ : ∃ x, x = SP.size p := ⟨_, rfl⟩
  have hzb : ((mb.length : Int) == (SZ : Int)) = true := by rw [beq_iff_eq]; omega
  have hze : (mb.length : Int) = (SZ : Int) := by omega
  rw [<- hSZ] at HSI HSIZ HMZ HS
  obtain ⟨PR, hPR⟩ : ∃ x : DM.DS × Pg × Int, x = (if SP.told E1 = 0 then (S1, ⟨n + 1, fm⟩, 0) else (S1, ND.zp, SP.told E1)) := ⟨_, rfl⟩
  rw [<- hPR]
  have HPR := Lib.hid hPR
  have HNR := Lib.hid hNR
  have HRZ := Lib.hid hRZ
  clear hRZ hNR hFM hGC hS1 hE1 hPL hSZ hPR hM hS hF hG hf h ht hd hp hn32 hn hn5 hme hsz hps hpl hmz hm
  go_enter Tryd.func17, Tryd.ntmps17
  go_upto_region 1 with fail
  rw [<- hw1]
  clear hw1
  go_upto_region 8 with (first
    | ((with_reducible show wpList _ _ _ (Oper.mk (some 23) (.call _) _ _ _ _ :: _) _ _); refine wpList_enter rfl (ex_call_cl (vs := #[]) rfl rfl (by simp) (HF.out _)) (HM.out w1 W1.out) ?_; rintro e w2 ⟨y, rfl, ry, ny, b2⟩; obtain ⟨ya, yc, rfl, _⟩ := ry.shape; refine ⟨_, rfl, ?_⟩; have RY := Lib.hid ry; have NY := Lib.hid ny; have W2 := Lib.hid (W1.out.on b2); have R2 := Lib.hid (R1.out.below b2 R1.out.lt); clear ry ny b2)
    | (go_at_call 31; (with_reducible refine (HSI.out _ W2.out).mono ?_); rintro e w3 ⟨rfl, hw⟩; subst w3))
  obtain ⟨A2, hA2⟩ : ∃ A2 : Nat -> Prop, A2 = fun k => A k \/ (w.heap.size <= k /\ k < w2.heap.size) := ⟨_, rfl⟩
  have HL2 := Lib.hid (show ∀ k, A k -> A2 k from fun k hk => by rw [hA2]; exact .inl hk)
  have HI2 := Lib.hid (show ∀ k, w.heap.size <= k -> k < w2.heap.size -> A2 k from fun k h1 h2 => by rw [hA2]; exact .inr ⟨h1, h2⟩)
  have HD2 := Lib.hid (show Dev B A2 w2 d S by rw [hA2]; exact HD.out.own W2.out)
  have HC0 := Lib.hid (fun W (hW : Below w2.heap.size w2 W) => (show W.cell? ⟨s, 0, none⟩ = some (.pointer (some ⟨d, 0, none⟩)) by obtain ⟨x, c0, _⟩ := (HSPA.out.below (W2.out.on hW)).cells; exact c0))
  have HGC := Lib.hid (fun W (hW : Below w2.heap.size w2 W) => (show W.rangeAt s 1 GC by rw [HGC0.out]; exact (HSPA.out.below (W2.out.on hW)).geo))
  have HW := Lib.hid (fun W (hW : Below w2.heap.size w2 W) => HWR.out A2 W (.slice ya mb.length yc) (HD2.out.below hW) (RY.out.below hW) (fun g e => .inr (HI2.out g (Nat.le_trans W1.out.size (NY.out g e)) (RY.out.in_ (by have := HMZ.out; have := HSIZ.out; omega) g e))))
  clear hA2
  refine wp_region_z (by kernel_rfl) [9, 11] (by kernel_rfl) (by kernel_rfl) (Stg [9, 11] ((PwA w2 B A2 d S1))) [.pre (.pointer (some ⟨s, 0, none⟩)), .pre (.pointer (some ⟨s, 0, none⟩)), .pre (.pointer (some ⟨s, 0, none⟩)), .pre (.pointer (some ⟨d, 0, none⟩)), .pre (.pointer (some ⟨s, 0, none⟩)), .pre (.pointer (some ⟨s, 0, none⟩)), .pre (.pointer (some ⟨s, 1, none⟩)), .pre (.agg GC.toArray), .pre (.int .u32 (n : Int)), .pre (.int .i64 (PL : Int)), .pre (.slice ya mb.length yc), .pre (.int .i64 E1), .pre (.int .i64 E1)] (fun i hi hq => by
        simp only [List.mem_cons, List.mem_nil_iff, or_false] at hi
        rcases hi with rfl | rfl
        . exact absurd hq (by decide +kernel)
        . exact absurd hq (by decide +kernel)) (Stg.zero (Below.refl _ _).drew) ?_ ?_
  . refine ⟨?_, ?_, ?_, ?_, ?_, ?_, ?_, ?_, ?_, ?_, ?_, ?_, ?_, trivial⟩
    . intro a w5 r hF hI hns hri h1 h2 hd
      have e0 : a.eval (.tmp 0) = .pointer (some ⟨s, 0, none⟩) := hF 0 (by decide +kernel)
      exact doesZ_read (v := .pointer (some ⟨s, 0, none⟩)) (by decide) rfl (ex_move rfl e0) hI rfl
    . intro a w5 r hF hI hns hri h1 h2 hd
      have e36 : a.eval (.tmp 36) = .pointer (some ⟨s, 0, none⟩) := hd 0 (by decide +kernel)
      exact doesZ_read (v := .pointer (some ⟨s, 0, none⟩)) (by decide) rfl (ex_nilCheck rfl e36) hI rfl
    . intro a w5 r hF hI hns hri h1 h2 hd
      have e37 : a.eval (.tmp 37) = .pointer (some ⟨s, 0, none⟩) := hd 1 (by decide +kernel)
      exact doesZ_read (v := .pointer (some ⟨s, 0, none⟩)) (by decide) rfl (ex_fieldAddr rfl e37 (by go_simp)) hI rfl
    . intro a w5 r hF hI hns hri h1 h2 hd
      have e38 : a.eval (.tmp 38) = .pointer (some ⟨s, 0, none⟩) := hd 2 (by decide +kernel)
      obtain ⟨k, hk1, hk2, hA⟩ : ∃ k, 0 <= k /\ k <= 1 /\ (PwA w2 B A2 d S1) k r w5 := hI.between 0 1 (.inl rfl) (.inr ⟨by decide, h1 11 (by decide) (by decide +kernel)⟩)
      have hB : w5.cell? ⟨s, 0, none⟩ = some (.pointer (some ⟨d, 0, none⟩)) := by
        rcases (show k = 0 \/ k = 1 by omega) with rfl | rfl
        . exact HC0.out w5 hA
        . exact HC0.out w5 hA
      exact doesZ_read (v := .pointer (some ⟨d, 0, none⟩)) (by decide) rfl (by unfold execOp; simp only [e38]; go_simp) hI rfl
    . intro a w5 r hF hI hns hri h1 h2 hd
      have e0 : a.eval (.tmp 0) = .pointer (some ⟨s, 0, none⟩) := hF 0 (by decide +kernel)
      exact doesZ_read (v := .pointer (some ⟨s, 0, none⟩)) (by decide) rfl (ex_move rfl e0) hI rfl
    . intro a w5 r hF hI hns hri h1 h2 hd
      have e40 : a.eval (.tmp 40) = .pointer (some ⟨s, 0, none⟩) := hd 4 (by decide +kernel)
      exact doesZ_read (v := .pointer (some ⟨s, 0, none⟩)) (by decide) rfl (ex_nilCheck rfl e40) hI rfl
    . intro a w5 r hF hI hns hri h1 h2 hd
      have e41 : a.eval (.tmp 41) = .pointer (some ⟨s, 0, none⟩) := hd 5 (by decide +kernel)
      exact doesZ_read (v := .pointer (some ⟨s, 1, none⟩)) (by decide) rfl (ex_fieldAddr rfl e41 (by go_simp)) hI rfl
    . intro a w5 r hF hI hns hri h1 h2 hd
      have e42 : a.eval (.tmp 42) = .pointer (some ⟨s, 1, none⟩) := hd 6 (by decide +kernel)
      obtain ⟨k, hk1, hk2, hA⟩ : ∃ k, 0 <= k /\ k <= 1 /\ (PwA w2 B A2 d S1) k r w5 := hI.between 0 1 (.inl rfl) (.inr ⟨by decide, h1 11 (by decide) (by decide +kernel)⟩)
      have hB : w5.rangeAt (s) 1 GC := by
        rcases (show k = 0 \/ k = 1 by omega) with rfl | rfl
        . exact HGC.out w5 hA
        . exact HGC.out w5 hA
      exact doesZ_ld (by decide) rfl 33 (.tmp 42) rfl (s) 1 e42 GC hB _ Tryd.underlying33 rfl (by rw [GC2.out]; exact infoGeoP) hI rfl
    . intro a w5 r hF hI hns hri h1 h2 hd
      have e1 : a.eval (.tmp 1) = .int .u32 (n : Int) := hF 1 (by decide +kernel)
      exact doesZ_read (v := .int .u32 (n : Int)) (by decide) rfl (ex_move rfl e1) hI rfl
    . intro a w5 r hF hI hns hri h1 h2 hd
      have e43 : a.eval (.tmp 43) = .agg GC.toArray := hd 7 (by decide +kernel)
      have e44 : a.eval (.tmp 44) = .int .u32 (n : Int) := hd 8 (by decide +kernel)
      have hA0 : (PwA w2 B A2 d S1) 0 r w5 := hI.at_ 0 (.inl rfl) (.inr ⟨by decide, hri⟩)
      exact doesZ_call (by decide) rfl (ex_call (vs := #[.agg GC.toArray, .int .u32 (n : Int)]) rfl (by simp only [List.map_toArray, List.map_cons, List.map_nil, e43, e44]) (by go_simp)) ((HP.out w5).mono fun e w6 hh => ⟨_, hh.1, hI.next 0 9 _ rfl (by decide) (.inl rfl) hri (by decide) (hA0.on hh.2), rfl⟩)
    . intro a w5 r hF hI hns hri h1 h2 hd
      have e10 : a.eval (.tmp 10) = .slice ya mb.length yc := hF 10 (by decide +kernel)
      exact doesZ_read (v := .slice ya mb.length yc) (by decide) rfl (ex_move rfl e10) hI rfl
    . intro a w5 r hF hI hns hri h1 h2 hd
      have e39 : a.eval (.tmp 39) = .pointer (some ⟨d, 0, none⟩) := hd 3 (by decide +kernel)
      have e45 : a.eval (.tmp 45) = .int .i64 (PL : Int) := hd 9 (by decide +kernel)
      have e46 : a.eval (.tmp 46) = .slice ya mb.length yc := hd 10 (by decide +kernel)
      have hA0 : (PwA w2 B A2 d S1) 1 r w5 := hI.at_ 1 (.inr ⟨by decide, h2 9 (by decide) (by decide +kernel)⟩) (.inr ⟨by decide, hri⟩)
      exact doesZ_call (by decide) rfl (ex_call (vs := #[.pointer (some ⟨d, 0, none⟩), .int .i64 (PL : Int), .slice ya mb.length yc]) rfl (by simp only [List.map_toArray, List.map_cons, List.map_nil, e39, e45, e46]) (by go_simp)) ((HW.out w5 hA0).mono fun e w6 hh => ⟨_, hh.1, hI.next 1 11 _ rfl (by decide) (.inr ⟨by decide, h2 9 (by decide) (by decide +kernel)⟩) hri (by decide) (⟨hh.2.1, (Kept.of_below hA0).trans hh.2.2⟩), rfl⟩)
    . intro a w5 r hF hI hns hri h1 h2 hd
      have e47 : a.eval (.tmp 47) = .int .i64 E1 := hd 11 (by decide +kernel)
      exact doesZ_read (v := .int .i64 E1) (by decide) rfl (ex_assign rfl e47) hI rfl
  . intro vs r w5 hI hS hvs
    have hA : (PwA w2 B A2 d S1) 2 r w5 := hI.at_ 2 (.inr ⟨by decide, hS 11 (by decide)⟩) (.inl rfl)
    have e12 : vs 12 = .int .i64 E1 := hvs 12 (by decide)
    have D5 := Lib.hid hA.1
    have K5 := Lib.hid hA.2
    have R5 := Lib.hid (R2.out.kept hA.2 (.inr (HI2.out _ (Nat.le_refl _) R2.out.lt)))
    have RY5 := Lib.hid (RY.out.kept hA.2 (fun g e => .inr (HI2.out g (Nat.le_trans W1.out.size (NY.out g e)) (RY.out.in_ (by have := HMZ.out; have := HSIZ.out; omega) g e))))
    have KW := Lib.hid ((Kept.of_below W2.out).trans (hA.2.less HL2.out))
    simp only [putOps, Act.put, List.setIfInBounds_toArray, List.set_cons_zero, List.set_cons_succ, e12]
    clear hI hS hvs hA e12 HW HC0 HGC HWR HM HF HSI HP
    generalize vs 0 = z0
    generalize vs 1 = z1
    generalize vs 2 = z2
    generalize vs 3 = z3
    generalize vs 4 = z4
    generalize vs 5 = z5
    generalize vs 6 = z6
    generalize vs 7 = z7
    generalize vs 8 = z8
    generalize vs 9 = z9
    generalize vs 10 = z10
    generalize vs 11 = z11
    by_cases hE : E1 = 0
    . subst hE
      have HPE := Lib.hid (show PR = (S1, ⟨n + 1, fm⟩, 0) by rw [HPR.out, if_pos (by decide)])
      clear HPR
      go_wp2_with (first
        | ((with_reducible show wpList _ _ _ (Oper.mk (some 57) (.call _) _ _ _ _ :: _) _ _); refine wpList_enter rfl (ex_call_cl (vs := #[.slice ya mb.length yc]) rfl rfl (by simp only [List.map_toArray, List.map_cons, List.map_nil]; rfl) (HG.out _ _)) (HS.out w5 _ KW.out RY5.out HMZ.out) ?_; rintro e w6 ⟨rfl, b6⟩; refine ⟨_, rfl, ?_⟩; have R6 := Lib.hid (R5.out.below b6 R5.out.lt); have D6 := Lib.hid (D5.out.below b6); have K6 := Lib.hid (KW.out.trans (Kept.of_below b6)); clear b6; simp only [Act.put, List.setIfInBounds_toArray, List.set_cons_zero, List.set_cons_succ]; refine wpList_wanted rfl (.agg NR.toArray) (ex_build rfl (by simp only [List.map_toArray, List.map_cons, List.map_nil]; exact HBU.out)) ?_; simp only [Act.put, List.setIfInBounds_toArray, List.set_cons_zero, List.set_cons_succ])
        | ((with_reducible show wpList _ _ _ (Oper.mk _ (.store _ (.tmp 8) (.tmp 58)) _ _ _ _ :: _) _ _); refine wpList_store_blk rfl 37 (.tmp 8) (.tmp 58) rfl w.heap.size 0 NR rfl rfl 37 RZ R6.out (by rw [NR33.out, RZ33.out]; exact Nat.le_refl 33) (by rw [NR33.out]; exact infoRfQ) (NR1.out) ?_; intro w7 b' g'; rw [splice_all _ _ (by rw [NR33.out, RZ33.out])] at b'; have U := Lib.hid b'; have GRU := Lib.hid g'; clear b' g'))
      refine bodyPost_ret (results_mid2 rfl _ _ w.heap.size NR _ rfl U.out.range Tryd.underlying37 rfl (by rw [NR33.out]; exact infoRfQ)) rfl ?_
      exact ⟨by rw [HPE.out, HNR.out]; rfl, by rw [HPE.out]; exact (D6.out.turn GRU.out (fun g e => by rw [<- Option.some.inj e]; exact HI2.out _ (Nat.le_refl _) R2.out.lt)).less HL2.out, K6.out.trans (Kept.of_grown GRU.out HFR.out)⟩
    . have hEb : (E1 == 0) = false := by rw [beq_eq_false_iff_ne]; exact hE
      have HPE := Lib.hid (show PR = (S1, ND.zp, SP.told E1) by rw [HPR.out, if_neg (fun q => hE (told_zero.1 q))])
      have HFA := Lib.hid (fun W => spfaulted_any E1 W)
      obtain ⟨TE, hTE⟩ : ∃ x, x = SP.told E1 := ⟨_, rfl⟩
      rw [<- hTE] at HFA HPE
      clear HPR hTE
      go_wp2_with (first
        | ((with_reducible show wpList _ _ _ (Oper.mk (some 50) (.build _ _) _ _ _ _ :: _) _ _); refine wpList_wanted rfl (.agg RZ.toArray) (ex_build0 rfl hbr) ?_)
        | (go_at_call 34; (with_reducible refine (HFA.out _).mono ?_); rintro e w6 ⟨rfl, rfl⟩)
        | ((with_reducible show wpList _ _ _ (Oper.mk _ (.store _ (.tmp 8) (.tmp 50)) _ _ _ _ :: _) _ _); refine wpList_store_blk rfl 37 (.tmp 8) (.tmp 50) rfl w.heap.size 0 RZ rfl rfl 37 RZ R5.out (by rw [Nat.zero_add]; exact Nat.le_refl _) (by rw [RZ33.out]; exact infoRfQ) (RZ1.out) ?_; intro w7 b' g'; rw [splice_all _ _ (by rfl)] at b'; have U := Lib.hid b'; have GRU := Lib.hid g'; clear b' g'))
      refine bodyPost_ret (results_mid2 rfl _ _ w.heap.size RZ _ rfl U.out.range Tryd.underlying37 rfl (by rw [RZ33.out]; exact infoRfQ)) rfl ?_
      exact ⟨by rw [HPE.out, HRZ.out]; rfl, by rw [HPE.out]; exact (D5.out.turn GRU.out (fun g e => by rw [<- Option.some.inj e]; exact HI2.out _ (Nat.le_refl _) R2.out.lt)).less HL2.out, KW.out.trans (Kept.of_grown GRU.out HFR.out)⟩
end Go.Proofs.YtflnodkajhokhaaDoor
end

section
namespace Go.Proofs.YtflnodkajhokhaaDoor
open RT XM AM
namespace DM
theorem ext_gb {l m : List Nat} (hl : l.length = m.length) (h : ∀ k, k < l.length -> gb l k = gb m k) : l = m := by
  apply List.ext_getElem hl
  intro i h1 h2
  have := h i h1
  unfold gb at this
  rw [List.getD_eq_getElem?_getD, List.getD_eq_getElem?_getD, List.getElem?_eq_getElem h1, List.getElem?_eq_getElem h2] at this
  exact this
def part (s : List Nat) (c m : Nat) : List Nat := (s.drop c).take m
theorem part_len {s : List Nat} {c m : Nat} (h : c + m <= s.length) : (part s c m).length = m := by unfold part; rw [List.length_take, List.length_drop]; omega
theorem part_get (s : List Nat) (c m k : Nat) (h : k < m) : gb (part s c m) k = gb s (c + k) := by unfold part; rw [Go.Proofs.YtflnodkajhokhaaDoor.gb_take _ m k h, Go.Proofs.YtflnodkajhokhaaDoor.gb_drop]
theorem part_laid {s b : List Nat} {a : Nat} (_h : a + b.length <= s.length) (hb : b ≠ []) : part (laid s a b) a b.length = b := by
  have hl := laid_len s a b hb
  apply ext_gb (part_len (by omega))
  intro k hk
  rw [part_len (by omega)] at hk
  rw [part_get _ _ _ _ hk, laid_get, if_pos ⟨hb, by omega, by omega⟩, Nat.add_sub_cancel_left]
theorem part_apart {s b : List Nat} {a c m : Nat} (h : c + m <= s.length) (hd : c + m <= a \/ a + b.length <= c) : part (laid s a b) c m = part s c m := by
  have hl := laid_ge s a b
  apply ext_gb (by rw [part_len (by omega), part_len h])
  intro k hk
  rw [part_len (by omega)] at hk
  rw [part_get _ _ _ _ hk, part_get _ _ _ _ hk, laid_get, if_neg (by omega)]
theorem laid_same {s b : List Nat} {a : Nat} (h : a + b.length <= s.length) : (laid s a b).length = s.length := by
  by_cases hb : b = []
  . subst hb; rw [laid_nil]
  . rw [laid_len s a b hb]; omega
end DM
namespace SP
open DM (DS)
structure Room (s : Sp) (d : DS) (n : Nat) : Prop where
  down : d.down = false
  told : d.told = false
  most : d.seen.length <= d.most
  num : n <= 65535
  fits : place s n + size s <= d.seen.length
theorem size_pos {s : Sp} (h : Ok s) : 512 <= size s := by unfold size; have := h.per; omega
theorem lay_room {s : Sp} {d : DS} {n : Nat} (h : Room s d n) {b : List Nat} (hb : b.length = size s) : lay s d n b = ({ DM.wrote d (place s n) b with steps := d.steps + 1 }, 0) := by
  have h1 := h.fits
  have h2 := h.most
  have e : DM.write d (place s n : Int) b = ({ DM.wrote d (place s n) b with steps := d.steps + 1 }, 0) := by
    unfold DM.write
    rw [h.down, if_neg (by decide), if_neg (by omega), if_neg (by omega), Int.toNat_natCast]
    unfold DM.step
    rw [if_pos h.told]
    rfl
  unfold lay
  rw [e]
  rfl
theorem lay_seen {s : Sp} {d : DS} {n : Nat} (h : Room s d n) {b : List Nat} (hb : b.length = size s) : (lay s d n b).1.seen = DM.laid d.seen (place s n) b /\ (lay s d n b).2 = 0 := by rw [lay_room h hb]; exact ⟨rfl, rfl⟩
theorem Room.lay {s : Sp} {d : DS} {n m : Nat} (h : Room s d n) (k : Room s d m) {b : List Nat} (hb : b.length = size s) : Room s (SP.lay s d n b).1 m := by
  have e := lay_room h hb
  have h1 := h.fits
  have hl : (DM.laid d.seen (place s n) b).length = d.seen.length := DM.laid_same (by omega)
  rw [e]
  refine ⟨h.down, h.told, ?_, k.num, ?_⟩
  . show (DM.laid d.seen (place s n) b).length <= d.most
    rw [hl]; exact h.most
  . show _ <= (DM.laid d.seen (place s n) b).length
    rw [hl]; exact k.fits
theorem put_room {s : Sp} {d : DS} {n : Nat} (h : Room s d n) {b : List Nat} (hb : b.length = size s) (sum : List Nat) : put s d n b sum = ((lay s d n b).1, ⟨n + 1, sum⟩, 0) := by
  unfold put
  rw [if_neg (by have := h.num; omega), if_pos (lay_seen h hb).2]
theorem raw_room {s : Sp} {d : DS} {n : Nat} (h : Room s d n) (sum : List Nat) : raw s d ⟨n + 1, sum⟩ = (DM.part d.seen (place s n) (size s), 0) := by
  have h1 := h.fits
  have h3 := h.num
  unfold raw
  rw [if_neg (by show ¬ (n + 1 = 0 \/ 65536 < n + 1); omega)]
  have e : DM.read d (place s n : Int) (size s : Int) = (DM.part d.seen (place s n) (size s), 0) := by
    unfold DM.read
    rw [h.down, if_neg (by decide), if_neg (by omega), Int.toNat_natCast, Int.toNat_natCast]
    rfl
  show ((DM.read d (place s n : Int) (size s : Int)).1, told (DM.read d (place s n : Int) (size s : Int)).2) = _
  rw [e]
  rfl
theorem raw_lay {s : Sp} (hs : Ok s) {d : DS} {n : Nat} (h : Room s d n) {b : List Nat} (hb : b.length = size s) (sum : List Nat) : raw s (lay s d n b).1 ⟨n + 1, sum⟩ = (b, 0) := by
  have h1 := h.fits
  have h2 := size_pos hs
  rw [raw_room (h.lay h hb) sum, (lay_seen h hb).1, <- hb, DM.part_laid (by omega) (fun e => by rw [e] at hb; simp at hb; omega)]
theorem place_apart {s : Sp} {n m : Nat} (h : n ≠ m) : place s m + size s <= place s n \/ place s n + size s <= place s m := by
  unfold place size
  rcases Nat.lt_or_gt_of_ne h with q | q
  . right
    have := Nat.mul_le_mul_right (s.per * 512) (show n + 1 <= m from q)
    rw [Nat.add_mul] at this
    omega
  . left
    have := Nat.mul_le_mul_right (s.per * 512) (show m + 1 <= n from q)
    rw [Nat.add_mul] at this
    omega
theorem raw_other {s : Sp} {d : DS} {n m : Nat} (h : Room s d n) (k : Room s d m) (hnm : n ≠ m) {b : List Nat} (hb : b.length = size s) (sum : List Nat) : raw s (lay s d n b).1 ⟨m + 1, sum⟩ = raw s d ⟨m + 1, sum⟩ := by
  have h1 := k.fits
  rw [raw_room (h.lay k hb) sum, raw_room k sum, (lay_seen h hb).1, DM.part_apart (by omega) (by have := place_apart (s := s) hnm; omega)]
theorem data_back {s : Sp} (hs : Ok s) {d : DS} {n : Nat} {b : List Nat} (hb : ∀ k, gb b k < 256) (hl : b.length = size s) (hr : raw s d ⟨n + 1, leaf s (n + 1) (sealed s n b)⟩ = (sealed s n b, 0)) : data s d ⟨n + 1, leaf s (n + 1) (sealed s n b)⟩ = (b, 0) := by
  unfold data
  rw [hr, if_neg (by simp), if_neg (by simp)]
  show (opened s (n + 1 - 1) (sealed s n b), (0 : Int)) = _
  rw [Nat.add_sub_cancel]
  unfold opened sealed
  rw [xopen_xseal (keys_bytes hs.one) (keys_bytes hs.two) _ hb (by rw [hl]; unfold size; omega)]
theorem nodeBytes_len {s : Sp} (hs : Ok s) {x : List Pg} (hx : ND.Nok x) : (nodeBytes s x).length = size s := by
  have := size_pos hs
  unfold nodeBytes
  rw [padTo_len, ND.ones_len8 hx]
  omega
theorem beg_room {s : Sp} (h : s.per = 1) {n : Nat} (hn : n <= 23) : Room s beg n := by
  have e1 : beg.seen.length = 16384 := by rw [beg_seen, List.length_replicate]
  refine ⟨by rw [beg_eq]; rfl, by rw [beg_eq]; rfl, by rw [e1, beg_most]; decide, by omega, ?_⟩
  rw [e1]
  unfold place size
  rw [h]
  omega
end SP
end Go.Proofs.YtflnodkajhokhaaDoor
end

section
namespace Go.Proofs.YtflnodkajhokhaaDoor
open Go.ChangeShapes Go.WideShapes Go.ChangeAt Go.RowKit
open RT XM AM SM
theorem SP.data_none {p : SP.Sp} {S : DM.DS} {r : Pg} (h : (SP.seen p S r (SP.leaf p r.at_ (SP.raw p S r).1)).2 ≠ 0) : SP.data p S r = ([], (SP.seen p S r (SP.leaf p r.at_ (SP.raw p S r).1)).2) := by
  unfold SP.seen at h ⊢
  unfold SP.data
  by_cases c : (SP.raw p S r).2 ≠ 0
  . rw [if_pos c, if_pos c]
  . rw [if_neg c] at h ⊢
    rw [if_neg c]
    by_cases k : SP.leaf p r.at_ (SP.raw p S r).1 ≠ r.sum
    . rw [if_pos k, if_pos k]
    . rw [if_neg k] at h; exact absurd rfl h
theorem SP.data_some {p : SP.Sp} (hp : SP.Ok p) {S : DM.DS} {r : Pg} (h : (SP.seen p S r (SP.leaf p r.at_ (SP.raw p S r).1)).2 = 0) : (1 <= r.at_ /\ r.at_ <= 65536) /\ (SP.seen p S r (SP.leaf p r.at_ (SP.raw p S r).1)).1.length = SP.size p /\ SP.data p S r = (SP.opened p (r.at_ - 1) (SP.seen p S r (SP.leaf p r.at_ (SP.raw p S r).1)).1, 0) := by
  unfold SP.seen at h ⊢
  by_cases c : (SP.raw p S r).2 ≠ 0
  . rw [if_pos c] at h; exact absurd h c
  . rw [if_neg c] at h ⊢
    by_cases k : SP.leaf p r.at_ (SP.raw p S r).1 ≠ r.sum
    . rw [if_pos k] at h; exact absurd h (by decide)
    . rw [if_neg k]
      refine ⟨SP.raw_at (Classical.not_not.1 c), SP.raw_len hp (Classical.not_not.1 c), ?_⟩
      unfold SP.data
      rw [if_neg c, if_neg k]
theorem xerr_ok (p : SP.Sp) (hp : SP.Ok p) : xerr (SP.size p) = 0 := by
  unfold xerr SP.size
  have := hp.per
  rw [if_neg (by omega)]
set_option maxRecDepth 100000 in
set_option maxHeartbeats 4000000 in
theorem spcdata_any {Z : Nat -> Prop} {s d : Nat} {p : SP.Sp} (hp : SP.Ok p) (B : Nat) (A : Nat -> Prop) (S : DM.DS) (w : World) (hd : Dev B A w d S) (ht : Tame S) (h : Spa Z w s d p) (r : Pg) (hr : Pok r) (tx : TabX w) (tu : TabU w) (tp : TabP w) : Calls Tryd.prog 26 #[.pointer (some ⟨s, 0, none⟩), .agg (pc r).toArray] w fun e w' => ∃ y, e = .returned (.tuple #[y, .int .i64 (SP.data p S r).2]) /\ Rd w' y (SP.data p S r).1 /\ NewB w y /\ Below w.heap.size w w' := by
  have HA0 := Lib.hid (show (pc r)[0]? = some (.int .u32 (r.at_ : Int)) from rfl)
  have RC33 := Lib.hid (pc_len hr)
  obtain ⟨w1, hw1⟩ : ∃ x, x = w.alloc (.cells (pc r).toArray 37) := ⟨_, rfl⟩
  have W1 := Lib.hid (show Below w.heap.size w w1 by rw [hw1]; exact (Below.refl w.heap.size w).alloc (Nat.le_refl _) (.cells (pc r).toArray 37))
  have R1 := Lib.hid (show Blk w1 w.heap.size 37 (pc r) by rw [hw1]; exact Blk.new w 37 (pc r) _ rfl)
  have HRD := Lib.hid (fun W b0 b1 (hW : Below w1.heap.size w1 W) (g0 : Blk W b0 30 [.pointer (some ⟨s, 0, none⟩)]) (g1 : Blk W b1 34 [.int .u32 (r.at_ : Int)]) => spcread_any hp B A S W (hd.below (W1.out.on hW)) ht (h.below (W1.out.on hW)) r hr 40 #[.pointer (some ⟨b0, 0, none⟩), .pointer (some ⟨b1, 0, none⟩)] (SP.leaf p r.at_ (SP.raw p S r).1) (mac_bytes _ _)
    (fun v W => by rw [show (#[v] ++ #[.pointer (some ⟨b0, 0, none⟩), .pointer (some ⟨b1, 0, none⟩)] : Array Value) = #[v, .pointer (some ⟨b0, 0, none⟩), .pointer (some ⟨b1, 0, none⟩)] by simp]; go_simp)
    fun _ _ V v hV hv => by
      rw [show (#[v] ++ #[.pointer (some ⟨b0, 0, none⟩), .pointer (some ⟨b1, 0, none⟩)] : Array Value) = #[v, .pointer (some ⟨b0, 0, none⟩), .pointer (some ⟨b1, 0, none⟩)] by simp]
      exact spleaf1_any hp r.at_ hr.1 _ v b0 b1 V (h.below ((W1.out.on hW).on hV)) (g0.below hV g0.lt) (g1.below hV g1.lt) hv (tp.below ((W1.out.on hW).on hV)))
  have HDN := Lib.hid (@SP.data_none p S r)
  have HDS := Lib.hid (@SP.data_some p hp S r)
  obtain ⟨PR, hPR⟩ : ∃ x, x = SP.data p S r := ⟨_, rfl⟩
  rw [<- hPR] at HDN HDS ⊢
  obtain ⟨RB, hRB⟩ : ∃ x, x = (SP.seen p S r (SP.leaf p r.at_ (SP.raw p S r).1)).1 := ⟨_, rfl⟩
  obtain ⟨E1, hE⟩ : ∃ x, x = (SP.seen p S r (SP.leaf p r.at_ (SP.raw p S r).1)).2 := ⟨_, rfl⟩
  rw [<- hRB] at HRD HDS
  rw [<- hE] at HRD HDN HDS
  obtain ⟨x, _, _, c3, hx⟩ := h.cells
  have HX3 := Lib.hid (fun W (hW : Below w.heap.size w W) => (show W.cell? ⟨s, 3, none⟩ = some (.pointer (some ⟨x, 0, none⟩)) from (hW.cell (p := ⟨s, 3, none⟩) h.lt).trans c3))
  have HSE0 := Lib.hid (fun W (hW : Below w.heap.size w W) m (hm : m <= 65535) => spsector_any hp (h.below hW) m hm)
  have HOP0 := Lib.hid (fun W v (hW : Below w.heap.size w W) (hv : Rd W v RB) m (hm : m <= 65535) => xt_openN x p.one p.two (SP.sect p m) (SP.sect_lt hp hm) v RB W hv (hx.below hW) (tx.below hW) (tu.below hW))
  have HXE := Lib.hid (xerr_ok p hp)
  obtain ⟨at_, hat⟩ : ∃ x, x = r.at_ := ⟨_, rfl⟩
  obtain ⟨RC, hRC⟩ : ∃ x, x = pc r := ⟨_, rfl⟩
  rw [<- hRC] at HRD R1 RC33 HA0 hw1 ⊢
  rw [<- hat] at HRD HDS HA0
  clear hRB hE hRC hp hd ht h hr tp tx tu hPR hat c3 hx
  go_enter Tryd.func26, Tryd.ntmps26
  go_upto_region 1 with fail
  rw [<- hw1]
  clear hw1
  refine wp_region_l (by kernel_rfl) 11 (by decide) (by kernel_rfl) (by kernel_rfl) (by kernel_rfl) [.val (.pointer (some ⟨s, 0, none⟩)), .val (.agg RC.toArray), .val (.pointer (some ⟨s, 0, none⟩)), .val (.pointer (some ⟨w.heap.size, 0, none⟩)), .val (.int .u32 (at_ : Int)), ⟨fun v W => ∃ b0 b1, v = .func (.func 40) #[] #[.pointer (some ⟨b0, 0, none⟩), .pointer (some ⟨b1, 0, none⟩)] /\ Blk W b0 30 [.pointer (some ⟨s, 0, none⟩)] /\ Blk W b1 34 [.int .u32 (at_ : Int)], fun h k => by obtain ⟨b0, b1, e, g0, g1⟩ := h; exact ⟨b0, b1, e, g0.below k g0.lt, g1.below k g1.lt⟩⟩, ⟨fun v W => ∃ y, v = .tuple #[y, .int .i64 E1] /\ Own W w.heap.size y RB, fun h k => by obtain ⟨y, e, g⟩ := h; exact ⟨y, e, g.below k⟩⟩, ⟨fun v W => ∃ y, v = .tuple #[y, .int .i64 E1] /\ Own W w.heap.size y RB, fun h k => by obtain ⟨y, e, g⟩ := h; exact ⟨y, e, g.below k⟩⟩, ⟨fun v W => Own W w.heap.size v RB, fun h k => h.below k⟩, .val (.int .i64 E1), ⟨fun v W => Own W w.heap.size v RB, fun h k => h.below k⟩] ?_ ?_
  . refine ⟨?_, ?_, ?_, ?_, ?_, ?_, ?_, ?_, ?_, ?_, ?_, trivial⟩
    . intro a w' hF hB hd
      have e0 : a.eval (.tmp 0) = .pointer (some ⟨s, 0, none⟩) := hF 0 (by decide +kernel)
      exact doesL_val rfl (ex_move rfl e0) rfl
    . intro a w' hF hB hd
      have e3 : a.eval (.tmp 3) = .pointer (some ⟨w.heap.size, 0, none⟩) := hF 3 (by decide +kernel)
      exact doesL_val rfl (ex_load_part 37 (.tmp 3) rfl w.heap.size 0 e3 RC _ ((R1.out.below hB R1.out.lt).range) Tryd.underlying37 rfl (by rw [RC33.out]; exact infoRfQ)) rfl
    . intro a w' hF hB hd
      have e0 : a.eval (.tmp 0) = .pointer (some ⟨s, 0, none⟩) := hF 0 (by decide +kernel)
      exact doesL_val rfl (ex_move rfl e0) rfl
    . intro a w' hF hB hd
      have e3 : a.eval (.tmp 3) = .pointer (some ⟨w.heap.size, 0, none⟩) := hF 3 (by decide +kernel)
      exact doesL_val rfl (ex_fieldAddr rfl e3 (by go_simp)) rfl
    . intro a w' hF hB hd
      have e12 : a.eval (.tmp 12) = .pointer (some ⟨w.heap.size, 0, none⟩) := hd 3 (by decide +kernel)
      have cc := (R1.out.below hB R1.out.lt).cell 0 _ HA0.out
      exact doesL_val rfl (v := .int .u32 (at_ : Int)) (by unfold execOp; simp only [e12]; go_simp) rfl
    . intro a w' hF hB hd
      have e11 : a.eval (.tmp 11) = .pointer (some ⟨s, 0, none⟩) := hd 2 (by decide +kernel)
      have e13 : a.eval (.tmp 13) = .int .u32 (at_ : Int) := hd 4 (by decide +kernel)
      exact doesL_call rfl (ex_call (vs := #[.pointer (some ⟨s, 0, none⟩), .int .u32 (at_ : Int)]) rfl (by simp only [List.map_toArray, List.map_cons, List.map_nil, e11, e13]) (by go_simp)) ((spleaf_any (some ⟨s, 0, none⟩) at_ w').mono fun e w3 hh => by obtain ⟨b0, b1, he, _, _, g0, g1, hb⟩ := hh; exact ⟨_, he, ⟨b0, b1, rfl, g0, g1⟩, hb⟩)
    . intro a w' hF hB hd
      have e9 : a.eval (.tmp 9) = .pointer (some ⟨s, 0, none⟩) := hd 0 (by decide +kernel)
      have e10 : a.eval (.tmp 10) = .agg RC.toArray := hd 1 (by decide +kernel)
      obtain ⟨b0, b1, e14, g0, g1⟩ : ∃ b0 b1, a.eval (.tmp 14) = .func (.func 40) #[] #[.pointer (some ⟨b0, 0, none⟩), .pointer (some ⟨b1, 0, none⟩)] /\ Blk w' b0 30 [.pointer (some ⟨s, 0, none⟩)] /\ Blk w' b1 34 [.int .u32 (at_ : Int)] := hd 5 (by decide +kernel)
      exact doesL_call rfl (ex_call (vs := #[.pointer (some ⟨s, 0, none⟩), .agg RC.toArray, .func (.func 40) #[] #[.pointer (some ⟨b0, 0, none⟩), .pointer (some ⟨b1, 0, none⟩)]]) rfl (by simp only [List.map_toArray, List.map_cons, List.map_nil, e9, e10, e14]) (by go_simp)) ((HRD.out w' b0 b1 hB g0 g1).mono fun e w3 hh => by obtain ⟨y, he, ho, hb⟩ := hh; exact ⟨_, he, ⟨y, rfl, ho.lower (Nat.le_trans (Nat.le_of_lt R1.out.lt) hB.size)⟩, hb⟩)
    . intro a w' hF hB hd
      obtain ⟨y, e15, hy⟩ : ∃ y, a.eval (.tmp 15) = .tuple #[y, .int .i64 E1] /\ Own w' w.heap.size y RB := hd 6 (by decide +kernel)
      exact doesL_val rfl (ex_move rfl e15) ⟨y, rfl, hy⟩
    . intro a w' hF hB hd
      obtain ⟨y, e8, hy⟩ : ∃ y, a.eval (.tmp 8) = .tuple #[y, .int .i64 E1] /\ Own w' w.heap.size y RB := hd 7 (by decide +kernel)
      exact doesL_val rfl (v := y) (by unfold execOp; simp only [e8]; rfl) hy
    . intro a w' hF hB hd
      obtain ⟨y, e8, hy⟩ : ∃ y, a.eval (.tmp 8) = .tuple #[y, .int .i64 E1] /\ Own w' w.heap.size y RB := hd 7 (by decide +kernel)
      exact doesL_val rfl (v := .int .i64 E1) (by unfold execOp; simp only [e8]; rfl) rfl
    . intro a w' hF hB hd
      have e16 : Own w' w.heap.size (a.eval (.tmp 16)) RB := hd 8 (by decide +kernel)
      exact doesL_val rfl (ex_assign rfl rfl) e16
  . intro vs w4 hB hv
    have e17 : vs 9 = .int .i64 E1 := hv 9 (by decide)
    have o6 : Own w4 w.heap.size (vs 10) RB := hv 10 (by decide)
    obtain ⟨ya, yc, e6, _⟩ := o6.rd.shape
    rw [e6] at o6
    have O4 := Lib.hid o6
    simp only [List.take_succ_cons, List.take_zero, List.drop_succ_cons, List.drop_zero, putOps, Act.put, List.setIfInBounds_toArray, List.set_cons_zero, List.set_cons_succ, e17, e6]
    have W4 := Lib.hid (W1.out.on hB)
    have R4 := Lib.hid (R1.out.below hB R1.out.lt)
    clear hv e17 e6 o6 hB HRD
    generalize vs 0 = z0
    generalize vs 1 = z1
    generalize vs 2 = z2
    generalize vs 3 = z3
    generalize vs 4 = z4
    generalize vs 5 = z5
    generalize vs 6 = z6
    generalize vs 7 = z7
    generalize vs 8 = z8
    by_cases hE : E1 = 0
    . subst hE
      obtain ⟨hat, hlen, hpr⟩ := HDS.out rfl
      obtain ⟨m, hm⟩ : ∃ m, at_ = m + 1 := ⟨at_ - 1, by omega⟩
      have hm5 : m <= 65535 := by omega
      have HWM := Lib.hid (show IntKind.u32.wrap ((at_ : Int) - 1) = (m : Int) by rw [IntKind.wrap_u32]; omega)
      have HSE := Lib.hid (fun W hW => HSE0.out W hW m hm5)
      have HOP := Lib.hid (fun W v hW hv => HOP0.out W v hW hv m hm5)
      rw [show at_ - 1 = m by omega] at hpr
      rw [hlen, HXE.out, if_pos rfl] at HOP
      obtain ⟨DB, hDB⟩ : ∃ x, x = xopen (keys p.one) (keys p.two) (SP.sect p m) RB := ⟨_, rfl⟩
      have HPE := Lib.hid (show PR = (DB, 0) by rw [hpr, hDB]; rfl)
      obtain ⟨Q, hQ⟩ : ∃ x, x = SP.sect p m := ⟨_, rfl⟩
      rw [<- hDB] at HOP
      rw [<- hQ] at HOP HSE
      clear HDS HDN HSE0 HOP0 hat hlen hpr hm hm5 hDB hQ HXE
      go_upto_region 4 with fail
      refine wp_region_l (by kernel_rfl) 14 (by decide) (by kernel_rfl) (by kernel_rfl) (by kernel_rfl) [.val (.pointer (some ⟨s, 0, none⟩)), .val (.pointer (some ⟨s, 0, none⟩)), .val (.pointer (some ⟨s, 3, none⟩)), .val (.pointer (some ⟨x, 0, none⟩)), .val (.pointer (some ⟨s, 0, none⟩)), .val (.pointer (some ⟨w.heap.size, 0, none⟩)), .val (.int .u32 (at_ : Int)), .val (.int .u32 (m : Int)), .val (.int .u64 (Q : Int)), .val (.slice ya RB.length yc), ⟨fun v W => ∃ y, v = .tuple #[y, .int .i64 0] /\ Rd W y DB /\ NewB w y, fun h k => by obtain ⟨y, e, g, n⟩ := h; exact ⟨y, e, g.below k, n⟩⟩, ⟨fun v W => Rd W v DB /\ NewB w v, fun h k => ⟨h.1.below k, h.2⟩⟩, .val (.int .i64 0), ⟨fun v W => Rd W v DB /\ NewB w v, fun h k => ⟨h.1.below k, h.2⟩⟩] ?_ ?_
      . refine ⟨?_, ?_, ?_, ?_, ?_, ?_, ?_, ?_, ?_, ?_, ?_, ?_, ?_, ?_, trivial⟩
        . intro a w' hF hB hd
          have e0 : a.eval (.tmp 0) = .pointer (some ⟨s, 0, none⟩) := hF 0 (by decide +kernel)
          exact doesL_val rfl (ex_move rfl e0) rfl
        . intro a w' hF hB hd
          have e21 : a.eval (.tmp 21) = .pointer (some ⟨s, 0, none⟩) := hd 0 (by decide +kernel)
          exact doesL_val rfl (ex_nilCheck rfl e21) rfl
        . intro a w' hF hB hd
          have e22 : a.eval (.tmp 22) = .pointer (some ⟨s, 0, none⟩) := hd 1 (by decide +kernel)
          exact doesL_val rfl (ex_fieldAddr rfl e22 (by go_simp)) rfl
        . intro a w' hF hB hd
          have e23 : a.eval (.tmp 23) = .pointer (some ⟨s, 3, none⟩) := hd 2 (by decide +kernel)
          have cc := HX3.out w' (W4.out.on hB)
          exact doesL_val rfl (v := .pointer (some ⟨x, 0, none⟩)) (by unfold execOp; simp only [e23]; go_simp) rfl
        . intro a w' hF hB hd
          have e0 : a.eval (.tmp 0) = .pointer (some ⟨s, 0, none⟩) := hF 0 (by decide +kernel)
          exact doesL_val rfl (ex_move rfl e0) rfl
        . intro a w' hF hB hd
          have e3 : a.eval (.tmp 3) = .pointer (some ⟨w.heap.size, 0, none⟩) := hF 3 (by decide +kernel)
          exact doesL_val rfl (ex_fieldAddr rfl e3 (by go_simp)) rfl
        . intro a w' hF hB hd
          have e26 : a.eval (.tmp 26) = .pointer (some ⟨w.heap.size, 0, none⟩) := hd 5 (by decide +kernel)
          have cc := (R4.out.below hB R4.out.lt).cell 0 _ HA0.out
          exact doesL_val rfl (v := .int .u32 (at_ : Int)) (by unfold execOp; simp only [e26]; go_simp) rfl
        . intro a w' hF hB hd
          have e27 : a.eval (.tmp 27) = .int .u32 (at_ : Int) := hd 6 (by decide +kernel)
          exact doesL_val rfl (ex_binOp rfl e27 rfl (by go_simp) (by have hwm := HWM.out; go_simp)) rfl
        . intro a w' hF hB hd
          have e25 : a.eval (.tmp 25) = .pointer (some ⟨s, 0, none⟩) := hd 4 (by decide +kernel)
          have e28 : a.eval (.tmp 28) = .int .u32 (m : Int) := hd 7 (by decide +kernel)
          exact doesL_call rfl (ex_call (vs := #[.pointer (some ⟨s, 0, none⟩), .int .u32 (m : Int)]) rfl (by simp only [List.map_toArray, List.map_cons, List.map_nil, e25, e28]) (by go_simp)) ((HSE.out w' (W4.out.on hB)).mono fun e w3 hh => ⟨_, hh.1, rfl, hh.2⟩)
        . intro a w' hF hB hd
          have e6 : a.eval (.tmp 6) = .slice ya RB.length yc := hF 6 (by decide +kernel)
          exact doesL_val rfl (ex_move rfl e6) rfl
        . intro a w' hF hB hd
          have e24 : a.eval (.tmp 24) = .pointer (some ⟨x, 0, none⟩) := hd 3 (by decide +kernel)
          have e29 : a.eval (.tmp 29) = .int .u64 (Q : Int) := hd 8 (by decide +kernel)
          have e30 : a.eval (.tmp 30) = .slice ya RB.length yc := hd 9 (by decide +kernel)
          exact doesL_call rfl (ex_call (vs := #[.pointer (some ⟨x, 0, none⟩), .int .u64 (Q : Int), .slice ya RB.length yc]) rfl (by simp only [List.map_toArray, List.map_cons, List.map_nil, e24, e29, e30]) (by go_simp)) ((HOP.out w' _ (W4.out.on hB) (O4.out.rd.below hB)).mono fun e w3 hh => by obtain ⟨y, he, hr, hn, hb⟩ := hh; exact ⟨_, he, ⟨y, rfl, hr, fun g hg => Nat.le_trans (W4.out.on hB).size (hn g hg)⟩, hb⟩)
        . intro a w' hF hB hd
          obtain ⟨y, e31, hy, ny⟩ : ∃ y, a.eval (.tmp 31) = .tuple #[y, .int .i64 0] /\ Rd w' y DB /\ NewB w y := hd 10 (by decide +kernel)
          exact doesL_val rfl (v := y) (by unfold execOp; simp only [e31]; rfl) ⟨hy, ny⟩
        . intro a w' hF hB hd
          obtain ⟨y, e31, hy, ny⟩ : ∃ y, a.eval (.tmp 31) = .tuple #[y, .int .i64 0] /\ Rd w' y DB /\ NewB w y := hd 10 (by decide +kernel)
          exact doesL_val rfl (v := .int .i64 0) (by unfold execOp; simp only [e31]; rfl) rfl
        . intro a w' hF hB hd
          have e32 : Rd w' (a.eval (.tmp 32)) DB /\ NewB w (a.eval (.tmp 32)) := hd 11 (by decide +kernel)
          exact doesL_val rfl (ex_assign rfl rfl) e32
      . intro vs w5 hB hv
        have e33 : vs 12 = .int .i64 0 := hv 12 (by decide)
        obtain ⟨r4, n4⟩ : Rd w5 (vs 13) DB /\ NewB w (vs 13) := hv 13 (by decide)
        obtain ⟨da, dc, e4, _⟩ := r4.shape
        rw [e4] at r4 n4
        have D5 := Lib.hid r4
        have N5 := Lib.hid n4
        simp only [List.take_succ_cons, List.take_zero, List.drop_succ_cons, List.drop_zero, putOps, Act.put, List.setIfInBounds_toArray, List.set_cons_zero, List.set_cons_succ, e33, e4]
        have W5 := Lib.hid (W4.out.on hB)
        clear hv e33 e4 r4 n4 hB
        generalize vs 0 = y0
        generalize vs 1 = y1
        generalize vs 2 = y2
        generalize vs 3 = y3
        generalize vs 4 = y4
        generalize vs 5 = y5
        generalize vs 6 = y6
        generalize vs 7 = y7
        generalize vs 8 = y8
        generalize vs 9 = y9
        generalize vs 10 = y10
        generalize vs 11 = y11
        go_wp2_with fail
        go_ret2
        exact ⟨_, by rw [HPE.out]; rfl, by rw [HPE.out]; exact D5.out, N5.out, W5.out⟩
    . have hEb : (E1 == 0) = false := by rw [beq_eq_false_iff_ne]; exact hE
      have HPE := Lib.hid (show PR = ([], E1) from HDN.out hE)
      clear HDS HDN HSE0 HOP0 HXE
      go_wp2_with fail
      go_ret2
      exact ⟨.slice none 0 0, by rw [HPE.out]; rfl, by rw [HPE.out]; exact Rd.none_ _, NewB.none_ _, W4.out⟩
end Go.Proofs.YtflnodkajhokhaaDoor
end
