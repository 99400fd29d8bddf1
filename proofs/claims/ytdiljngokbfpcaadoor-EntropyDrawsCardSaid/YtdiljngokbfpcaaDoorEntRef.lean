/- The document's source, a struct by value: a byte of the stream, bytes drawn: contracts. Own work. -/
import Derived.Test.YtdiljngokbfpcaaDoorEntMath
import Derived.Test.YtdiljngokbfpcaaDoorShaB
import Derived.Test.YtdiljngokbfpcaaDoorShaD
import Derived.Test.YtdiljngokbfpcaaDoorOct
import Derived.Test.YtdiljngokbfpcaaDoorAppStr
import Derived.Test.YtdiljngokbfpcaaDoorRdConst
namespace Go.Proofs.YtdiljngokbfpcaaDoor
open Go.ChangeShapes Go.WideShapes Go.ChangeAt Go.RowKit
open SM
abbrev rsrc (v : Value) (T : Nat) : Value := .agg #[v, .int .i64 (T : Int)]
theorem Tab.belowE {w w' : World} (h : Tab w) (hb : Below w.heap.size w w') : Tab w' := h.below hb
set_option maxRecDepth 100000 in
set_option maxHeartbeats 1000000 in
theorem rsbyte_any (S : List Nat) (hS : S.length ≤ 1000000) (T k : Nat) (hk : k < 4611686018427387904) (v : Value) (w : World) (hv : Rd w v S) (ht : Tab w) :
    Calls Tryd.prog 16 #[rsrc v T, .int .i64 (k : Int)] w fun e w' => e = .returned (.int .u8 ((EM.byte S k : Nat) : Int)) ∧ Below w.heap.size w w' := by
  obtain ⟨ao, cap, rfl, hcap⟩ := hv.shape
  have b1 := (Below.refl w.heap.size w).alloc (Nat.le_refl _) (.cells #[.slice ao S.length cap, .int .i64 (T : Int)] 28)
  have b2 := b1.alloc b1.size (.cells #[] 5)
  have o2 : Own ((w.alloc (.cells #[.slice ao S.length cap, .int .i64 (T : Int)] 28)).alloc (.cells #[] 5)) w.heap.size (.slice (some ⟨w.heap.size + 1, 0, none⟩) 0 0) [] := own_empty _ (by simp) b1.size
  have r2 := (hv.alloc (.cells #[.slice ao S.length cap, .int .i64 (T : Int)] 28)).alloc (.cells #[] 5)
  obtain ⟨W2, hW2⟩ : ∃ W, W = ((w.alloc (.cells #[.slice ao S.length cap, .int .i64 (T : Int)] 28)).alloc (.cells #[] 5)) := ⟨_, rfl⟩
  have hz2 : W2.heap.size = w.heap.size + 2 := by rw [hW2]; simp
  rw [← hW2] at b2 o2 r2
  have HW2 := Lib.hid hW2
  have B2 := Lib.hid b2
  have O2 := Lib.hid o2
  have R2 := Lib.hid r2
  have HT := Lib.hid ht
  clear hv ht b1 b2 o2 r2 hW2
  obtain ⟨i, hi⟩ : ∃ i, i = k / 32 := ⟨_, rfl⟩
  obtain ⟨j, hj⟩ : ∃ j, j = k % 32 := ⟨_, rfl⟩
  have q1 : (k : Int) / 32 = (i : Int) := by omega
  have q2 : (k : Int) % 32 = (j : Int) := by omega
  have q3 : (j : Int) < 32 := by omega
  have q4 : (0 : Int) ≤ (j : Int) := by omega
  have q5 : i < 4611686018427387904 := by omega
  obtain ⟨P, hP⟩ : ∃ P, P = EM.part S i := ⟨_, rfl⟩
  have HB : Hid (EM.byte S k = gb P j) := by rw [hP, hj, hi]; rfl
  have P32 := Lib.hid (show (row8 P).length = 32 by rw [row8_len, hP]; exact (EM.part_bytes S i).1)
  have HPP := Lib.hid (show P = sha ((S ++ EM.use) ++ be i 8) by rw [hP]; rfl)
  have HL8 := Lib.hid (be_len i 8)
  have HPL := Lib.hid (show P.length = 32 by rw [hP]; exact (EM.part_bytes S i).1)
  have HPT := Lib.hid (fun W => rput_any i 8 (by omega) (by omega) W)
  have hgz : ∀ w, (zeroValue 39).run Tryd.prog w = .ok (.agg (row8 (List.replicate 32 0)).toArray) w := zeroSum
  obtain ⟨D0, hD0⟩ : ∃ D, D = row8 (List.replicate 32 0) := ⟨_, rfl⟩
  rw [← hD0] at hgz
  have hd0 : D0.length = 32 := by rw [hD0, row8_len, List.length_replicate]
  have HI := Lib.hid hi
  have HJ := Lib.hid (show j < 32 by omega)
  clear hP hD0 hi hj
  rw [HB.out]
  have HLU := Lib.hid (show (S ++ EM.use).length = S.length + 4 by rw [List.length_append]; rfl)
  go_enter Tryd.func16, Tryd.ntmps16
  go_upto_region 2 with (first
    | (rw [← HW2.out]; refine wpList_app rfl (.tmp 7) (.tmp 9) rfl w.heap.size (.slice (some ⟨w.heap.size + 1, 0, none⟩) 0 0) (.slice ao S.length cap) [] S rfl rfl O2.out R2.out (by simp; omega) B2.out.size ?_; intro v3 w3 o3 g3 _; rw [List.nil_append] at o3; have O3 := Lib.hid o3; have B3 := Lib.hid (B2.out.grown g3 B2.out.size (fun j hj => by have : w.heap.size + 1 = j := Option.some.inj hj; omega)); clear o3 g3)
    | (refine wpList_app_text rfl (.tmp 10) (.const (.string ⟨#[100, 114, 97, 119]⟩)) rfl w.heap.size v3 S _ rfl rfl O3.out (show S.length + 4 ≤ 140737488355328 by omega) B3.out.size ?_; intro v4 w4 o4 g4; change Own w4 w.heap.size v4 (S ++ EM.use) at o4; obtain ⟨a4, c4, rfl, _⟩ := o4.rd.shape; rw [HLU.out] at o4 ⊢; have O4 := Lib.hid o4; have B4 := Lib.hid (B3.out.grown g4 B3.out.size (fun j hj => (O3.out.from j hj).1)); clear o4 g4))
  go_upto_region 3 with (first
    | (go_at_call 23; refine (HPT.out _).mono ?_; rintro e w5 ⟨v5, rfl, o5, b5⟩; have O5 := Lib.hid o5; have P5 := Lib.hid (O4.out.below b5); have B5 := Lib.hid (B4.out.on b5); clear o5 b5)
    | (refine wpList_app rfl (.tmp 12) (.tmp 16) rfl w.heap.size (.slice a4 (S.length + 4) c4) v5 (S ++ EM.use) (be i 8) rfl rfl P5.out O5.out.rd (by rw [HLU.out, HL8.out]; omega) B5.out.size ?_; intro v6 w6 o6 g6 _; have O6 := Lib.hid o6; have B6 := Lib.hid (B5.out.grown g6 B5.out.size (fun j hj => (P5.out.from j hj).1)); clear o6 g6)
    | (go_at_call 22; go_loud (refine (rof_any _ (by rw [List.length_append, HLU.out, HL8.out]; omega) v6 w6 O6.out.rd (HT.out.below B6.out)).mono ?_; rw [← HPP.out]; rintro e w7 ⟨rfl, b7⟩; have B7 := Lib.hid (B6.out.on b7); clear b7))
    | (refine wpList_store_blk rfl 39 (.tmp 6) (.tmp 18) rfl w7.heap.size 0 (row8 P) rfl rfl 39 D0 (Blk.new w7 39 D0 _ rfl) (by rw [P32.out, hd0]; exact Nat.le_refl _) (by rw [P32.out]; exact infoS) (row8_one _) ?_; intro w8 b8 g8; rw [splice_all _ _ (by rw [P32.out, hd0])] at b8; have K8 := Lib.hid b8; have B8 := Lib.hid (own_turn B7.out g8); clear b8 g8))
  simp only [put_none]
  have cj := K8.out.cell j _ (row8_val P j (by rw [HPL.out]; exact HJ.out))
  have hjn : (j : Int).toNat = j := Int.toNat_natCast j
  have hj32 := HJ.out
  go_wp2_with fail
  go_ret
  exact ⟨rfl, B8.out⟩
theorem results_mid3 {P : Program} {fn : Func} {p t u : Tmp} {ty : TypeId} (h : fn.results = #[.cell p ty, .tmp t, .tmp u]) (tmps : Array Value) (w : World) (b : Nat) (cs : List Value) (d : TypeDesc)
    (hp : tmps.getD p undef = .pointer (some ⟨b, 0, none⟩)) (hr : w.rangeAt b 0 cs) (hu : P.underlying ty = some d) (hd : d.isRow = true) (hi : (P.info? ty).map (·.size) = some cs.length) :
    (results fn tmps).run P w = .ok (.tuple #[.agg cs.toArray, tmps.getD t undef, tmps.getD u undef]) w := by
  have hp' : tmps[p]?.getD undef = .pointer (some ⟨b, 0, none⟩) := by simpa using hp
  simp [results, h, hp', asAddr, run_loadVar_mid w b 0 ty cs d hr hu hd hi]
theorem infoRS : (Tryd.prog.info? 28).map (·.size) = some 2 := by kernel_rfl
theorem rsdraw_bad (S : List Nat) (T : Nat) (n : Int) (hn : n < 0 ∨ 1024 < n) (v : Value) (w : World) (hv : Rd w v S) :
    Calls Tryd.prog 9 #[rsrc v T, .int .i64 n] w fun e w' => e = .returned (.tuple #[rsrc v T, .slice none 0 0, .int .i64 2]) ∧ Below w.heap.size w w' := by
  obtain ⟨ao, cap, rfl, _⟩ := hv.shape
  clear hv
  by_cases h0 : n < 0
  · clear hn
    go_enter Tryd.func9, Tryd.ntmps9
    go_wp2_with fail
    exact bodyPost_ret (results_mid3 rfl _ _ (w.heap.size + 1) [.slice ao S.length cap, .int .i64 (T : Int)] _ rfl (Blk.new (w.alloc _) 28 [.slice ao S.length cap, .int .i64 (T : Int)] (w.heap.size + 1) (by simp)).range Tryd.underlying28 rfl infoRS) rfl ⟨rfl, ((Below.refl _ w).alloc (Nat.le_refl _) _).alloc (by simp) _⟩
  · have h1 : 1024 < n := by omega
    clear hn
    go_enter Tryd.func9, Tryd.ntmps9
    go_wp2_with fail
    exact bodyPost_ret (results_mid3 rfl _ _ (w.heap.size + 1) [.slice ao S.length cap, .int .i64 (T : Int)] _ rfl (Blk.new (w.alloc _) 28 [.slice ao S.length cap, .int .i64 (T : Int)] (w.heap.size + 1) (by simp)).range Tryd.underlying28 rfl infoRS) rfl ⟨rfl, ((Below.refl _ w).alloc (Nat.le_refl _) _).alloc (by simp) _⟩
set_option maxRecDepth 100000 in
set_option maxHeartbeats 1000000 in
theorem rsdraw_ok (S : List Nat) (hS : S.length ≤ 1000000) (T n : Nat) (hn : n ≤ 1024) (hT : T ≤ 1099511627776) (v : Value) (w : World) (hv : Rd w v S) (ht : Tab w) :
    Calls Tryd.prog 9 #[rsrc v T, .int .i64 (n : Int)] w fun e w' => ∃ y, e = .returned (.tuple #[rsrc v (T + n), y, .int .i64 0]) ∧ Own w' w.heap.size y (EM.drawn S T n) ∧ Below w.heap.size w w' := by
  obtain ⟨ao, cap, rfl, hcap⟩ := hv.shape
  have b2 : Below w.heap.size w ((w.alloc (.cells #[.slice ao S.length cap, .int .i64 (T : Int)] 28)).alloc (.cells #[.slice none 0 0, .int .i64 0] 28)) := ((Below.refl _ w).alloc (Nat.le_refl _) _).alloc (by simp) _
  have k2 : Blk ((w.alloc (.cells #[.slice ao S.length cap, .int .i64 (T : Int)] 28)).alloc (.cells #[.slice none 0 0, .int .i64 0] 28)) (w.heap.size + 1) 28 [.slice none 0 0, .int .i64 0] := Blk.new _ _ _ _ (by simp)
  have s2 : Blk ((w.alloc (.cells #[.slice ao S.length cap, .int .i64 (T : Int)] 28)).alloc (.cells #[.slice none 0 0, .int .i64 0] 28)) w.heap.size 28 [.slice ao S.length cap, .int .i64 (T : Int)] := (Blk.new w _ _ _ rfl).alloc _
  have B2 := Lib.hid b2
  have K2 := Lib.hid k2
  have S2 := Lib.hid s2
  have HV := Lib.hid hv
  have HT := Lib.hid ht
  clear b2 k2 s2 hv ht
  have hn0 : ¬ ((n : Int) < 0) := by omega
  have hn1 : ¬ (1024 < (n : Int)) := by omega
  have RB := Lib.hid (fun W (hW : Below w.heap.size w W) (k : Nat) (hk : k < 4611686018427387904) => rsbyte_any S hS T k hk _ W (HV.out.below hW) (HT.out.below hW))
  go_enter Tryd.func9, Tryd.ntmps9
  go_wp2_with fail
  go_loopw [7, 8] (fun o i wr => ∃ k : Nat, k ≤ n ∧ i = .int .i64 (k : Int) ∧ Own wr (w.heap.size + 2) o (EM.drawn S T k) ∧ Blk wr w.heap.size 28 [.slice ao S.length cap, .int .i64 (T : Int)] ∧ Blk wr (w.heap.size + 1) 28 [.slice none 0 0, .int .i64 0] ∧ Below w.heap.size w wr) (fun _ i _ => n - (intOf i).toNat)
  case atStart => exact ⟨0, Nat.zero_le _, rfl, ⟨World.ownsRow_nil _ _ _ _, fun k => by simp [EM.drawn, gb], by simp [EM.drawn]⟩, S2.out, K2.out, B2.out⟩
  case round =>
    clear S2 K2 B2
    obtain ⟨k, hk, rfl, o, s, r, b⟩ := hrel
    obtain ⟨oa, oc, rfl, _⟩ := o.rd.shape
    rw [EM.drawn_len] at o ⊢
    have c0 := s.cell 0 _ rfl
    have c1 := s.cell 1 _ rfl
    have O := Lib.hid o
    have SS := Lib.hid s
    have R := Lib.hid r
    have B := Lib.hid b
    clear o s r b
    by_cases hlt : k < n
    · have HB := Lib.hid (RB.out wr B.out (T + k) (by omega))
      have hbt := (EM.part_bytes S ((T + k) / 32)).2 ((T + k) % 32)
      obtain ⟨bt, hb⟩ : ∃ x, x = EM.byte S (T + k) := ⟨_, rfl⟩
      rw [← hb] at HB
      have hbt2 : bt < 256 := by rw [hb]; exact hbt
      have HBT := Lib.hid hb
      have HDL := Lib.hid (EM.drawn_len S T k)
      clear hbt hb
      go_wp2_with (first
        | (go_at_call 16; refine HB.out.mono ?_; rintro e w3 ⟨rfl, b3⟩; have O3 := Lib.hid (O.out.below b3); have S3 := Lib.hid (SS.out.below b3 SS.out.lt); have R3 := Lib.hid (R.out.below b3 R.out.lt); have B3 := Lib.hid (B.out.on b3); clear b3)
        | (refine wpList_app rfl (.tmp 21) (.tmp 28) rfl (w.heap.size + 2) (.slice oa k oc) (.slice (some ⟨w3.heap.size, 0, none⟩) 1 1) (EM.drawn S T k) [bt] rfl rfl (O3.out.alloc (.cells #[.int .u8 (bt : Int)] 5)) (own_new w3 [bt] (small_bytes (by simpa using hbt2)) (by simp) rfl (Nat.le_refl _)).rd (by rw [HDL.out]; show k + 1 ≤ _; omega) (by have := R3.out.lt; simp; omega) ?_; intro v4 w4 o4 g4 _; have hg := fun j hj => O3.out.from j hj; have O4 := Lib.hid o4; have S4 := Lib.hid ((S3.out.alloc (.cells #[.int .u8 (bt : Int)] 5)).grown g4 (fun e => by have := (hg _ e.symm).1; omega)); have R4 := Lib.hid ((R3.out.alloc (.cells #[.int .u8 (bt : Int)] 5)).grown g4 (fun e => by have := (hg _ e.symm).1; omega)); have B4 := Lib.hid ((B3.out.alloc B3.out.size (.cells #[.int .u8 (bt : Int)] 5)).grown g4 (B3.out.alloc B3.out.size (.cells #[.int .u8 (bt : Int)] 5)).size (fun j hj => by have := (hg j hj).1; omega)); clear o4 g4 hg))
      refine ⟨⟨k + 1, by omega, by go_num, ?_, S4.out, R4.out, B4.out⟩, by simp [intOf]; omega⟩
      rw [EM.drawn_succ, ← HBT.out]; exact O4.out
    · obtain rfl : k = n := by omega
      have f1 := SS.out.free 1
      have hr := R.out.other ⟨w.heap.size, 1, none⟩ (.int .i64 ((T : Int) + (k : Int))) (by simp)
      have r0 := hr.cell 0 _ rfl
      have r1 := hr.cell 1 _ rfl
      have rf0 := hr.free 0
      have rf1 := hr.free 1
      have s1 := SS.out.set 1 (.int .i64 ((T : Int) + (k : Int)))
      have t0 := s1.cell 0 _ rfl
      have t1 := s1.cell 1 _ rfl
      have HR := Lib.hid hr
      have S1 := Lib.hid s1
      clear hr s1
      go_wp2_with fail
      have hlo := fun j hj => O.out.from j hj
      have o1 := O.out.keep (only_set (World.grownBy.refl wr (some w.heap.size)) (p := ⟨w.heap.size, 1, none⟩) (.inl rfl) (.int .i64 ((T : Int) + (k : Int)))) (.inr fun e => by have := (hlo _ e).1; omega)
      have o2 := o1.keep (only_set (World.grownBy.refl _ (some (w.heap.size + 1))) (p := ⟨w.heap.size + 1, 0, none⟩) (.inl rfl) (.slice ao S.length cap)) (.inr fun e => by have := (hlo _ e).1; omega)
      have o3 := o2.keep (only_set (World.grownBy.refl _ (some (w.heap.size + 1))) (p := ⟨w.heap.size + 1, 1, none⟩) (.inl rfl) (.int .i64 ((T : Int) + (k : Int)))) (.inr fun e => by have := (hlo _ e).1; omega)
      exact bodyPost_ret (results_mid3 rfl _ _ (w.heap.size + 1) [.slice ao S.length cap, .int .i64 ((T : Int) + (k : Int))] _ rfl ((HR.out.set 0 (.slice ao S.length cap)).set 1 (.int .i64 ((T : Int) + (k : Int)))).range Tryd.underlying28 rfl infoRS) rfl
        ⟨_, rfl, o3.lower (by omega), ((B.out.setCell (p := ⟨w.heap.size, 1, none⟩) (Nat.le_refl _) _).setCell (p := ⟨w.heap.size + 1, 0, none⟩) (by simp) _).setCell (p := ⟨w.heap.size + 1, 1, none⟩) (by simp) _⟩
end Go.Proofs.YtdiljngokbfpcaaDoor
