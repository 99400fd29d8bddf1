/- Do both sets tell the same? Contract of the law's same. Own work. -/
import Derived.Test.YtlckhlcccifbfaaDoorAlDo
import Derived.Test.YtlckhlcccifbfaaDoorFactX
namespace Go.Proofs.YtlckhlcccifbfaaDoor
open Go.ChangeShapes Go.WideShapes Go.ChangeAt Go.RowKit
theorem ex_load_rs {P : Program} {o : Oper} {a : Act} {w : World} (ty : TypeId) (x : Operand) (ho : o.op = .load ty x) (b k : Nat) (hx : a.eval x = .pointer (some ⟨b, k, none⟩)) (cs : List Value) (d : TypeDesc) (hr : w.rangeAt b k cs) (hu : P.underlying ty = some d) (hd : d.isRow = true) (hi : (P.info? ty).map (·.size) = some cs.length) : (execOp a.eval o).run P w = .ok (.value (.agg cs.toArray)) w := by
  unfold execOp
  simp only [ho, hx, Instr.loadAt, Instr.sureAddr, Sem.run_bind, Sem.run_pure, Result.andThen_ok, run_loadVar_mid w b k _ _ _ hr hu hd hi]
theorem OwnW.addr {w : World} {B n c : Nat} {a : Option Addr} {l : List Nat} (h : OwnW w B (.slice a n c) l) (hl : 0 < l.length) : ∃ g, a = some ⟨g, 0, none⟩ ∧ B ≤ g ∧ g < w.heap.size := by
  rcases h.1.2 with ⟨_, q⟩ | ⟨g, cap, cur, e, hB, hh, _⟩
  · omega
  · injection e with e1 _ _
    exact ⟨g, e1, hB, by have := (h.from g (by rw [e1]; rfl)).2; exact this⟩
theorem Wd.old {w : World} {v : Value} {l : List Nat} (h : Wd w v l) (hl : 0 < l.length) {g : Nat} (hg : v.ownBlock = some g) : g < w.heap.size := by
  rcases h.form with ⟨_, q⟩ | ⟨ad, cap, e, _, hs⟩
  · rw [q] at hl; exact absurd hl (by decide)
  · have h1 := World.block_lt_of_cell? w _ (hs 0 hl)
    rw [e] at hg
    have e3 : ad.block = g := Option.some.inj hg
    rw [add_block] at h1
    omega
theorem same_below {P : Program} {f : FuncId} {args : Array Value} {w : World} {v : Value} (h : Calls P f args w fun e w' => e = .returned v ∧ w' = w) : Calls P f args w fun e w' => e = .returned v ∧ Below w.heap.size w w' := h.mono fun _ _ ⟨he, hw⟩ => ⟨he, by rw [hw]; exact Below.refl _ _⟩
theorem drew_below {P : Program} {f : FuncId} {args : Array Value} {w : World} {v : Value} (h : Calls P f args w fun e w' => e = .returned v ∧ ∃ m, w' = w.drewN m) : Calls P f args w fun e w' => e = .returned v ∧ Below w.heap.size w w' := h.mono fun _ _ ⟨he, m, hw⟩ => ⟨he, by rw [hw]; exact below_dN (Below.refl _ _) m⟩
set_option maxHeartbeats 4000000 in
theorem asame_l (b g T n : Nat) (u : Nat → Bool) (l : List Nat) (hl : l = AL.lst T u) (v : Value) (w : World) (hn : n < 4294967296) (hs : Sets w b g T u) (hv : Wd w v l) (hTab : TabD w) : Calls Tryd.prog 12 #[.pointer (some ⟨b, 0, none⟩), .agg (rs T v).toArray, .int .u32 (n : Int)] w fun e w' => e = .returned (.bool true) ∧ Below w.heap.size w w' := by
  obtain ⟨L, hL⟩ : ∃ L, L = l.length := ⟨_, rfl⟩
  obtain ⟨ao, cap, hsh, hcap⟩ := hv.shape
  rw [← hL] at hsh
  subst hsh
  have hT := hs.most
  have hLT : L ≤ T := by rw [hL, hl]; exact AL.lst_len T u
  have hbd : ∀ i, i < L → gb l i < 65536 := fun i hi => by
    have h1 := AL.getD_mem l i (by omega)
    rw [hl] at h1
    have := (AL.lst_mem h1).1
    unfold gb; rw [hl]; omega
  have hout := hs.out
  have HU := Lib.hid (fun W (h : Sets W b g T u) => same_below (used_at b g T u W h (L : Int) (by rw [hL, hl])))
  obtain ⟨F, hF⟩ : ∃ F, F = T - L := ⟨_, rfl⟩
  have HF := Lib.hid (fun W (h : Sets W b g T u) => same_below (afree_any b g T u W h))
  rw [← hl, ← hL, ← hF] at HF
  have HTF := Lib.hid (show (F : Int) = (T : Int) - (L : Int) by omega)
  have HTT := Lib.hid (fun W (h : Sets W b g T u) => same_below (atotal_any b g T u W h))
  have HH := Lib.hid (fun W (h : Sets W b g T u) => drew_below (ahas_any b g T n u W hn h))
  have HRH := Lib.hid (fun W (h : Wd W (.slice ao L cap) l) => rhas_any T n u (.slice ao L cap) W (hl ▸ h) hout)
  have HLS := Lib.hid (fun W (h : Sets W b g T u) (q : TabD W) => alist_any b g T u W h q)
  rw [← hl] at HLS
  have HV := Lib.hid hv
  have HS := Lib.hid hs
  have HTB := Lib.hid hTab
  have HL := Lib.hid hL
  have HBD := Lib.hid hbd
  clear hv hl hs hTab hF hL hout hbd
  go_enter Tryd.func12, Tryd.ntmps12
  go_upto_region 1 with (fail)
  obtain ⟨W0, hW0⟩ : ∃ W0, W0 = w.alloc (.cells (rs T (.slice ao L cap)).toArray 28) := ⟨_, rfl⟩
  have B0 := Lib.hid (show Below w.heap.size w W0 by rw [hW0]; exact (Below.refl _ _).alloc (Nat.le_refl _) _)
  have K0 := Lib.hid (show Blk W0 w.heap.size 28 (rs T (.slice ao L cap)) by rw [hW0]; exact Blk.new w _ _ _ rfl)
  obtain ⟨z, hz⟩ : ∃ z, z = w.heap.size := ⟨_, rfl⟩
  have HZ := Lib.hid hz
  rw [← hz] at K0
  try rw [← hW0]
  rw [← hz]
  clear hW0 hz
  go_upto_region 2 with (first
    | (go_at_call 22; refine (HLS.out W0 (HS.out.below B0.out) (HTB.out.below B0.out)).mono ?_; rintro e1 w1 ⟨v1, rfl, ho, hb⟩; obtain ⟨a1, c1, hsh, hc1⟩ := ho.rd.shape; rw [← HL.out] at hsh hc1; subst hsh; have O1 := Lib.hid ho; have K1 := Lib.hid (K0.out.below hb K0.out.lt); have B1 := Lib.hid (B0.out.on hb); have S1 := Lib.hid (HS.out.below (B0.out.on hb)); have V1 := Lib.hid (HV.out.below (B0.out.on hb)); clear ho hb))
  have K0s := Lib.hid K0.out.lt
  clear HLS K0
  refine wp_region_l (by kernel_rfl) 40 (by decide) (by kernel_rfl) (by kernel_rfl) (by kernel_rfl) [.val (.slice a1 L c1), .val (.int .i64 (L : Int)), .val (.pointer (some ⟨z, 1, none⟩)), .val (.slice ao L cap), .val (.int .i64 (L : Int)), .val (.bool false), .val (.bool false), .val (.pointer (some ⟨b, 0, none⟩)), .val (.int .i64 (L : Int)), .val (.pointer (some ⟨z, 1, none⟩)), .val (.slice ao L cap), .val (.int .i64 (L : Int)), .val (.bool false), .val (.bool false), .val (.bool false), .val (.pointer (some ⟨b, 0, none⟩)), .val (.int .i64 (F : Int)), .val (.pointer (some ⟨z, 0, none⟩)), .val (.int .i64 (T : Int)), .val (.pointer (some ⟨z, 1, none⟩)), .val (.slice ao L cap), .val (.int .i64 (L : Int)), .val (.int .i64 (F : Int)), .val (.bool false), .val (.bool false), .val (.bool false), .val (.pointer (some ⟨b, 0, none⟩)), .val (.int .i64 (T : Int)), .val (.pointer (some ⟨z, 0, none⟩)), .val (.int .i64 (T : Int)), .val (.bool false), .val (.bool false), .val (.bool false), .val (.pointer (some ⟨b, 0, none⟩)), .val (.int .u32 (n : Int)), .val (.bool (u n)), .val (.agg (rs T (.slice ao L cap)).toArray), .val (.int .u32 (n : Int)), .val (.bool (u n)), .val (.bool false)] ?_ ?_
  · refine ⟨?_, ?_, ?_, ?_, ?_, ?_, ?_, ?_, ?_, ?_, ?_, ?_, ?_, ?_, ?_, ?_, ?_, ?_, ?_, ?_, ?_, ?_, ?_, ?_, ?_, ?_, ?_, ?_, ?_, ?_, ?_, ?_, ?_, ?_, ?_, ?_, ?_, ?_, ?_, ?_, trivial⟩
    · intro a w' hF hB hd
      have e7 : a.eval (.tmp 7) = .slice a1 L c1 := hF 7 (by decide +kernel)
      exact doesL_val rfl (ex_move rfl e7) rfl
    · intro a w' hF hB hd
      have e11 : a.eval (.tmp 11) = .slice a1 L c1 := hd 0 (by decide +kernel)
      have f11 : a.tmps[11]?.getD undef = .slice a1 L c1 := by rw [← Array.getD_eq_getD_getElem?]; exact e11
      exact doesL_val rfl (v := .int .i64 (L : Int)) (by unfold execOp; go_simp) rfl
    · intro a w' hF hB hd
      have e4 : a.eval (.tmp 4) = .pointer (some ⟨z, 0, none⟩) := hF 4 (by decide +kernel)
      exact doesL_val rfl (ex_fieldAddr rfl e4 (by go_simp)) rfl
    · intro a w' hF hB hd
      have e13 : a.eval (.tmp 13) = .pointer (some ⟨z, 1, none⟩) := hd 2 (by decide +kernel)
      have cc := (K1.out.below hB K1.out.lt).cell 1 _ rfl
      exact doesL_val rfl (v := .slice ao L cap) (by unfold execOp; simp only [e13]; go_simp) rfl
    · intro a w' hF hB hd
      have e14 : a.eval (.tmp 14) = .slice ao L cap := hd 3 (by decide +kernel)
      have f14 : a.tmps[14]?.getD undef = .slice ao L cap := by rw [← Array.getD_eq_getD_getElem?]; exact e14
      exact doesL_val rfl (v := .int .i64 (L : Int)) (by unfold execOp; go_simp) rfl
    · intro a w' hF hB hd
      have e12 : a.eval (.tmp 12) = .int .i64 (L : Int) := hd 1 (by decide +kernel)
      have e15 : a.eval (.tmp 15) = .int .i64 (L : Int) := hd 4 (by decide +kernel)
      exact doesL_val rfl (ex_binOp rfl e12 e15 (by go_simp) (by go_simp)) rfl
    · intro a w' hF hB hd
      have e16 : a.eval (.tmp 16) = .bool false := hd 5 (by decide +kernel)
      exact doesL_val rfl (ex_move rfl e16) rfl
    · intro a w' hF hB hd
      have e17 : a.eval (.tmp 17) = .bool false := hd 6 (by decide +kernel)
      have e0 : a.eval (.tmp 0) = .pointer (some ⟨b, 0, none⟩) := hF 0 (by decide +kernel)
      exact doesL_val (wanted_of rfl (yielded_of rfl e17)) (ex_move rfl e0) rfl
    · intro a w' hF hB hd
      have e17 : a.eval (.tmp 17) = .bool false := hd 6 (by decide +kernel)
      have e18 : a.eval (.tmp 18) = .pointer (some ⟨b, 0, none⟩) := hd 7 (by decide +kernel)
      exact doesL_call (wanted_of rfl (yielded_of rfl e17)) (ex_call (vs := #[.pointer (some ⟨b, 0, none⟩)]) rfl (by simp only [List.map_toArray, List.map_cons, List.map_nil, e18]) (by go_simp)) ((HU.out w' (S1.out.below hB)).mono fun e w3 hh => ⟨_, hh.1, rfl, hh.2⟩)
    · intro a w' hF hB hd
      have e17 : a.eval (.tmp 17) = .bool false := hd 6 (by decide +kernel)
      have e4 : a.eval (.tmp 4) = .pointer (some ⟨z, 0, none⟩) := hF 4 (by decide +kernel)
      exact doesL_val (wanted_of rfl (yielded_of rfl e17)) (ex_fieldAddr rfl e4 (by go_simp)) rfl
    · intro a w' hF hB hd
      have e17 : a.eval (.tmp 17) = .bool false := hd 6 (by decide +kernel)
      have e20 : a.eval (.tmp 20) = .pointer (some ⟨z, 1, none⟩) := hd 9 (by decide +kernel)
      have cc := (K1.out.below hB K1.out.lt).cell 1 _ rfl
      exact doesL_val (wanted_of rfl (yielded_of rfl e17)) (v := .slice ao L cap) (by unfold execOp; simp only [e20]; go_simp) rfl
    · intro a w' hF hB hd
      have e17 : a.eval (.tmp 17) = .bool false := hd 6 (by decide +kernel)
      have e21 : a.eval (.tmp 21) = .slice ao L cap := hd 10 (by decide +kernel)
      have f21 : a.tmps[21]?.getD undef = .slice ao L cap := by rw [← Array.getD_eq_getD_getElem?]; exact e21
      exact doesL_val (wanted_of rfl (yielded_of rfl e17)) (v := .int .i64 (L : Int)) (by unfold execOp; go_simp) rfl
    · intro a w' hF hB hd
      have e17 : a.eval (.tmp 17) = .bool false := hd 6 (by decide +kernel)
      have e19 : a.eval (.tmp 19) = .int .i64 (L : Int) := hd 8 (by decide +kernel)
      have e22 : a.eval (.tmp 22) = .int .i64 (L : Int) := hd 11 (by decide +kernel)
      exact doesL_val (wanted_of rfl (yielded_of rfl e17)) (ex_binOp rfl e19 e22 (by go_simp) (by go_simp)) rfl
    · intro a w' hF hB hd
      have e17 : a.eval (.tmp 17) = .bool false := hd 6 (by decide +kernel)
      have e23 : a.eval (.tmp 23) = .bool false := hd 12 (by decide +kernel)
      exact doesL_val rfl (ex_pick rfl e17 (by simp [e23])) rfl
    · intro a w' hF hB hd
      have e24 : a.eval (.tmp 24) = .bool false := hd 13 (by decide +kernel)
      exact doesL_val rfl (ex_move rfl e24) rfl
    · intro a w' hF hB hd
      have e25 : a.eval (.tmp 25) = .bool false := hd 14 (by decide +kernel)
      have e0 : a.eval (.tmp 0) = .pointer (some ⟨b, 0, none⟩) := hF 0 (by decide +kernel)
      exact doesL_val (wanted_of rfl (yielded_of rfl e25)) (ex_move rfl e0) rfl
    · intro a w' hF hB hd
      have e25 : a.eval (.tmp 25) = .bool false := hd 14 (by decide +kernel)
      have e26 : a.eval (.tmp 26) = .pointer (some ⟨b, 0, none⟩) := hd 15 (by decide +kernel)
      exact doesL_call (wanted_of rfl (yielded_of rfl e25)) (ex_call (vs := #[.pointer (some ⟨b, 0, none⟩)]) rfl (by simp only [List.map_toArray, List.map_cons, List.map_nil, e26]) (by go_simp)) ((HF.out w' (S1.out.below hB)).mono fun e w3 hh => ⟨_, hh.1, rfl, hh.2⟩)
    · intro a w' hF hB hd
      have e25 : a.eval (.tmp 25) = .bool false := hd 14 (by decide +kernel)
      have e4 : a.eval (.tmp 4) = .pointer (some ⟨z, 0, none⟩) := hF 4 (by decide +kernel)
      exact doesL_val (wanted_of rfl (yielded_of rfl e25)) (ex_fieldAddr rfl e4 (by go_simp)) rfl
    · intro a w' hF hB hd
      have e25 : a.eval (.tmp 25) = .bool false := hd 14 (by decide +kernel)
      have e28 : a.eval (.tmp 28) = .pointer (some ⟨z, 0, none⟩) := hd 17 (by decide +kernel)
      have cc := (K1.out.below hB K1.out.lt).cell 0 _ rfl
      exact doesL_val (wanted_of rfl (yielded_of rfl e25)) (v := .int .i64 (T : Int)) (by unfold execOp; simp only [e28]; go_simp) rfl
    · intro a w' hF hB hd
      have e25 : a.eval (.tmp 25) = .bool false := hd 14 (by decide +kernel)
      have e4 : a.eval (.tmp 4) = .pointer (some ⟨z, 0, none⟩) := hF 4 (by decide +kernel)
      exact doesL_val (wanted_of rfl (yielded_of rfl e25)) (ex_fieldAddr rfl e4 (by go_simp)) rfl
    · intro a w' hF hB hd
      have e25 : a.eval (.tmp 25) = .bool false := hd 14 (by decide +kernel)
      have e30 : a.eval (.tmp 30) = .pointer (some ⟨z, 1, none⟩) := hd 19 (by decide +kernel)
      have cc := (K1.out.below hB K1.out.lt).cell 1 _ rfl
      exact doesL_val (wanted_of rfl (yielded_of rfl e25)) (v := .slice ao L cap) (by unfold execOp; simp only [e30]; go_simp) rfl
    · intro a w' hF hB hd
      have e25 : a.eval (.tmp 25) = .bool false := hd 14 (by decide +kernel)
      have e31 : a.eval (.tmp 31) = .slice ao L cap := hd 20 (by decide +kernel)
      have f31 : a.tmps[31]?.getD undef = .slice ao L cap := by rw [← Array.getD_eq_getD_getElem?]; exact e31
      exact doesL_val (wanted_of rfl (yielded_of rfl e25)) (v := .int .i64 (L : Int)) (by unfold execOp; go_simp) rfl
    · intro a w' hF hB hd
      have e25 : a.eval (.tmp 25) = .bool false := hd 14 (by decide +kernel)
      have e29 : a.eval (.tmp 29) = .int .i64 (T : Int) := hd 18 (by decide +kernel)
      have e32 : a.eval (.tmp 32) = .int .i64 (L : Int) := hd 21 (by decide +kernel)
      exact doesL_val (wanted_of rfl (yielded_of rfl e25)) (ex_binOp rfl e29 e32 (by go_simp) (by rw [HTF.out]; go_simp; rw [IntKind.wrap_i64]; omega)) rfl
    · intro a w' hF hB hd
      have e25 : a.eval (.tmp 25) = .bool false := hd 14 (by decide +kernel)
      have e27 : a.eval (.tmp 27) = .int .i64 (F : Int) := hd 16 (by decide +kernel)
      have e33 : a.eval (.tmp 33) = .int .i64 (F : Int) := hd 22 (by decide +kernel)
      exact doesL_val (wanted_of rfl (yielded_of rfl e25)) (ex_binOp rfl e27 e33 (by go_simp) (by go_simp)) rfl
    · intro a w' hF hB hd
      have e25 : a.eval (.tmp 25) = .bool false := hd 14 (by decide +kernel)
      have e34 : a.eval (.tmp 34) = .bool false := hd 23 (by decide +kernel)
      exact doesL_val rfl (ex_pick rfl e25 (by simp [e34])) rfl
    · intro a w' hF hB hd
      have e35 : a.eval (.tmp 35) = .bool false := hd 24 (by decide +kernel)
      exact doesL_val rfl (ex_move rfl e35) rfl
    · intro a w' hF hB hd
      have e36 : a.eval (.tmp 36) = .bool false := hd 25 (by decide +kernel)
      have e0 : a.eval (.tmp 0) = .pointer (some ⟨b, 0, none⟩) := hF 0 (by decide +kernel)
      exact doesL_val (wanted_of rfl (yielded_of rfl e36)) (ex_move rfl e0) rfl
    · intro a w' hF hB hd
      have e36 : a.eval (.tmp 36) = .bool false := hd 25 (by decide +kernel)
      have e37 : a.eval (.tmp 37) = .pointer (some ⟨b, 0, none⟩) := hd 26 (by decide +kernel)
      exact doesL_call (wanted_of rfl (yielded_of rfl e36)) (ex_call (vs := #[.pointer (some ⟨b, 0, none⟩)]) rfl (by simp only [List.map_toArray, List.map_cons, List.map_nil, e37]) (by go_simp)) ((HTT.out w' (S1.out.below hB)).mono fun e w3 hh => ⟨_, hh.1, rfl, hh.2⟩)
    · intro a w' hF hB hd
      have e36 : a.eval (.tmp 36) = .bool false := hd 25 (by decide +kernel)
      have e4 : a.eval (.tmp 4) = .pointer (some ⟨z, 0, none⟩) := hF 4 (by decide +kernel)
      exact doesL_val (wanted_of rfl (yielded_of rfl e36)) (ex_fieldAddr rfl e4 (by go_simp)) rfl
    · intro a w' hF hB hd
      have e36 : a.eval (.tmp 36) = .bool false := hd 25 (by decide +kernel)
      have e39 : a.eval (.tmp 39) = .pointer (some ⟨z, 0, none⟩) := hd 28 (by decide +kernel)
      have cc := (K1.out.below hB K1.out.lt).cell 0 _ rfl
      exact doesL_val (wanted_of rfl (yielded_of rfl e36)) (v := .int .i64 (T : Int)) (by unfold execOp; simp only [e39]; go_simp) rfl
    · intro a w' hF hB hd
      have e36 : a.eval (.tmp 36) = .bool false := hd 25 (by decide +kernel)
      have e38 : a.eval (.tmp 38) = .int .i64 (T : Int) := hd 27 (by decide +kernel)
      have e40 : a.eval (.tmp 40) = .int .i64 (T : Int) := hd 29 (by decide +kernel)
      exact doesL_val (wanted_of rfl (yielded_of rfl e36)) (ex_binOp rfl e38 e40 (by go_simp) (by go_simp)) rfl
    · intro a w' hF hB hd
      have e36 : a.eval (.tmp 36) = .bool false := hd 25 (by decide +kernel)
      have e41 : a.eval (.tmp 41) = .bool false := hd 30 (by decide +kernel)
      exact doesL_val rfl (ex_pick rfl e36 (by simp [e41])) rfl
    · intro a w' hF hB hd
      have e42 : a.eval (.tmp 42) = .bool false := hd 31 (by decide +kernel)
      exact doesL_val rfl (ex_move rfl e42) rfl
    · intro a w' hF hB hd
      have e43 : a.eval (.tmp 43) = .bool false := hd 32 (by decide +kernel)
      have e0 : a.eval (.tmp 0) = .pointer (some ⟨b, 0, none⟩) := hF 0 (by decide +kernel)
      exact doesL_val (wanted_of rfl (yielded_of rfl e43)) (ex_move rfl e0) rfl
    · intro a w' hF hB hd
      have e43 : a.eval (.tmp 43) = .bool false := hd 32 (by decide +kernel)
      have e2 : a.eval (.tmp 2) = .int .u32 (n : Int) := hF 2 (by decide +kernel)
      exact doesL_val (wanted_of rfl (yielded_of rfl e43)) (ex_move rfl e2) rfl
    · intro a w' hF hB hd
      have e43 : a.eval (.tmp 43) = .bool false := hd 32 (by decide +kernel)
      have e44 : a.eval (.tmp 44) = .pointer (some ⟨b, 0, none⟩) := hd 33 (by decide +kernel)
      have e45 : a.eval (.tmp 45) = .int .u32 (n : Int) := hd 34 (by decide +kernel)
      exact doesL_call (wanted_of rfl (yielded_of rfl e43)) (ex_call (vs := #[.pointer (some ⟨b, 0, none⟩), .int .u32 (n : Int)]) rfl (by simp only [List.map_toArray, List.map_cons, List.map_nil, e44, e45]) (by go_simp)) ((HH.out w' (S1.out.below hB)).mono fun e w3 hh => ⟨_, hh.1, rfl, hh.2⟩)
    · intro a w' hF hB hd
      have e43 : a.eval (.tmp 43) = .bool false := hd 32 (by decide +kernel)
      have e4 : a.eval (.tmp 4) = .pointer (some ⟨z, 0, none⟩) := hF 4 (by decide +kernel)
      exact doesL_val (wanted_of rfl (yielded_of rfl e43)) (ex_load_rs 28 (.tmp 4) rfl z 0 e4 (rs T (.slice ao L cap)) _ ((K1.out.below hB K1.out.lt).range) Tryd.underlying28 rfl (infoSet)) rfl
    · intro a w' hF hB hd
      have e43 : a.eval (.tmp 43) = .bool false := hd 32 (by decide +kernel)
      have e2 : a.eval (.tmp 2) = .int .u32 (n : Int) := hF 2 (by decide +kernel)
      exact doesL_val (wanted_of rfl (yielded_of rfl e43)) (ex_move rfl e2) rfl
    · intro a w' hF hB hd
      have e43 : a.eval (.tmp 43) = .bool false := hd 32 (by decide +kernel)
      have e47 : a.eval (.tmp 47) = .agg (rs T (.slice ao L cap)).toArray := hd 36 (by decide +kernel)
      have e48 : a.eval (.tmp 48) = .int .u32 (n : Int) := hd 37 (by decide +kernel)
      exact doesL_call (wanted_of rfl (yielded_of rfl e43)) (ex_call (vs := #[.agg (rs T (.slice ao L cap)).toArray, .int .u32 (n : Int)]) rfl (by simp only [List.map_toArray, List.map_cons, List.map_nil, e47, e48]) (by go_simp)) ((HRH.out w' (V1.out.below hB)).mono fun e w3 hh => ⟨_, hh.1, rfl, hh.2⟩)
    · intro a w' hF hB hd
      have e43 : a.eval (.tmp 43) = .bool false := hd 32 (by decide +kernel)
      have e46 : a.eval (.tmp 46) = .bool (u n) := hd 35 (by decide +kernel)
      have e49 : a.eval (.tmp 49) = .bool (u n) := hd 38 (by decide +kernel)
      exact doesL_val (wanted_of rfl (yielded_of rfl e43)) (ex_binOp rfl e46 e49 (by go_simp) (by go_simp)) rfl
  · intro vs w4 hB hv
    have e9 : vs 32 = .bool false := hv 32 (by decide)
    have e8 : vs 39 = .bool false := hv 39 (by decide)
    simp only [List.take_succ_cons, List.take_zero, List.drop_succ_cons, List.drop_zero, putOps, Act.put, List.setIfInBounds_toArray, List.set_cons_zero, List.set_cons_succ, e9, e8]
    have O4 := Lib.hid (O1.out.below hB)
    have K4 := Lib.hid (K1.out.below hB K1.out.lt)
    have B4 := Lib.hid (B1.out.on hB)
    have V4 := Lib.hid (V1.out.below hB)
    clear hv e9 e8 hB HU HF HTT HH HRH
    have hzW := K4.out.lt
    have hB0 : w.heap.size < W0.heap.size := by have := K0s.out; have := HZ.out; omega
    go_wp2_with fail
    go_loopw [8] (fun x wr => ∃ (i : Nat) (cur : List Nat), i ≤ L ∧ x = .int .i64 (i : Int) ∧ cur.length = L ∧ (∀ j, i ≤ j → j < L → gb cur j = gb l j) ∧ OwnW wr W0.heap.size (.slice a1 L c1) cur ∧ Blk wr z 28 (rs T (.slice ao L cap)) ∧ Wd wr (.slice ao L cap) l ∧ Below w.heap.size w wr) (fun x _ => L - (intOf x).toNat)
    case atStart => exact ⟨0, l, Nat.zero_le _, rfl, HL.out.symm, fun _ _ _ => rfl, O4.out, K4.out, V4.out, B4.out⟩
    case round =>
      obtain ⟨i, cur, hi, hx, hcl, hsm, ow, bk, vv, bw⟩ := hrel
      subst hx
      have OW := Lib.hid ow
      have BK := Lib.hid bk
      have VV := Lib.hid vv
      have BW := Lib.hid bw
      have HSM := Lib.hid hsm
      have HCL := Lib.hid hcl
      have hw1 : wr.cell? ⟨z, 1, none⟩ = some (.slice ao L cap) := bk.cell 1 _ rfl
      clear ow bk vv bw hsm hcl O4 K4 V4 B4
      by_cases hlt : i < L
      · obtain ⟨g1, rfl, hg1, hg2⟩ := OW.out.addr (by rw [HCL.out]; omega)
        obtain ⟨ad, hao, hc⟩ := VV.out.at_ i (by rw [← HL.out]; exact hlt)
        have hod : ((.slice ao L cap) : Value).ownBlock ≠ some g1 := fun e => by
          have := HV.out.old (by rw [← HL.out]; omega) e
          omega
        have HOD := Lib.hid hod
        subst hao
        have hu := OW.out
        rw [← HCL.out] at hu
        have kc := hu.cell rfl i (by rw [HCL.out]; exact hlt)
        have kf := hu.free rfl i
        rw [HSM.out i (Nat.le_refl _) hlt] at kc
        have HU := Lib.hid hu
        have hb1 := HBD.out i hlt
        have kl : (i : Int) < (L : Int) := by omega
        clear hu hod
        go_wp2_with fail
        go_big_quiet (fail)
        go_wp2_with fail
        have he : ((gb l i : Int) + 1) = ((gb l i + 1 : Nat) : Int) := by omega
        have hne : i < cur.length := by rw [HCL.out]; exact hlt
        have o2 := HU.out.set i (gb l i + 1) (by omega) hne
        rw [HCL.out] at o2
        refine ⟨⟨i + 1, cur.set i (gb l i + 1), by omega, by go_num, by rw [List.length_set]; exact HCL.out, fun j h1 h2 => ?_, ?_, ?_, ?_, ?_⟩, by simp [intOf]; omega⟩
        · rw [gb_set _ _ _ _ hne, if_neg (by omega)]
          exact HSM.out j (by omega) h2
        · rw [he]; exact o2.below (below_dN (Below.refl _ _) nq)
        · have q := BK.out.other ⟨g1, i, none⟩ (.int .u32 ((gb l i : Int) + 1)) (by have := HZ.out; simp; omega)
          exact q.below (below_dN (Below.refl _ _) nq) q.lt
        · exact (VV.out.setCell _ _ HOD.out).below (below_dN (Below.refl _ _) nq)
        · exact below_dN (BW.out.setCell (by have := HZ.out; simp; omega) _) nq
      · have kl : ¬ (i : Int) < (L : Int) := by omega
        go_wp2_with fail
        go_ret
        exact ⟨rfl, BW.out⟩
theorem asame_any (b g T n : Nat) (u : Nat → Bool) (v : Value) (w : World) (hn : n < 4294967296) (hs : Sets w b g T u) (hv : Wd w v (AL.lst T u)) (hTab : TabD w) : Calls Tryd.prog 12 #[.pointer (some ⟨b, 0, none⟩), .agg (rs T v).toArray, .int .u32 (n : Int)] w fun e w' => e = .returned (.bool true) ∧ Below w.heap.size w w' := asame_l b g T n u _ rfl v w hn hs hv hTab
end Go.Proofs.YtlckhlcccifbfaaDoor
