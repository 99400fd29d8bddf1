/- Package alloc's List: contract. Own work. -/
import Derived.Test.YtlckhlcccifbfaaDoorAlPF
import Derived.Test.YtlckhlcccifbfaaDoorU32Mem
namespace Go.Proofs.YtlckhlcccifbfaaDoor
open Go.ChangeShapes Go.WideShapes Go.ChangeAt Go.RowKit
theorem run_make0W (w : World) (B : Nat) (hB : B ≤ w.heap.size) (n : Nat) (hn : n ≤ 65536) : ∃ w', (Instr.makeSlice 26 (.int .i64 0) (.int .i64 (n : Int))).run Tryd.prog w = .ok (.slice (some ⟨w.heap.size, 0, none⟩) 0 n) w' ∧ OwnW w' B (.slice (some ⟨w.heap.size, 0, none⟩) 0 n) [] ∧ Below w.heap.size w w' ∧ w.heap.size < w'.heap.size := by
  obtain ⟨i0, hi, hz0, hz1, hz2⟩ := info_parts infoW
  obtain ⟨w', hr, ho, hg⟩ := run_makeSlice_owned (P := Tryd.prog) w B 26 31 i0 (.int .u32 0) 1 Tryd.underlying26 hi hz0 hz1 .i64 .i64 n (by omega) (by rw [hz2]; omega) (by unfold maxLen; omega) hB
  exact ⟨w', hr, ⟨ho, fun k => by rw [gb_nil]; omega, by simp⟩, below_of_grown hg, (ho.lt _ rfl).2⟩
theorem wpList_make0W {ops : Array Oper} {rest : List Oper} {o : Oper} {a : Act} {w : World} {Q : Exit → Act → World → Prop} (hgd : o.guard = none) (x y : Operand) (ho : o.op = .makeSlice 26 x y) (B n : Nat) (hn : n ≤ 65536) (hx : a.eval x = .int .i64 0) (hy : a.eval y = .int .i64 (n : Int)) (hB : B ≤ w.heap.size)
    (h : ∀ w', OwnW w' B (.slice (some ⟨w.heap.size, 0, none⟩) 0 n) [] → Below w.heap.size w w' → w.heap.size < w'.heap.size → wpList Tryd.prog ops Q rest (a.put o.dst (.slice (some ⟨w.heap.size, 0, none⟩) 0 n)) w') : wpList Tryd.prog ops Q (o :: rest) a w := by
  refine wpList_plain hgd fun K hK => ?_
  obtain ⟨w', hr, hown, hb, hlt⟩ := run_make0W w B hB n hn
  unfold Oper.wp
  simp only [execOp, ho, hx, hy, Sem.run_bind, hr, Result.andThen_ok, Sem.run_pure, Oper.upon_value]
  exact hK _ _ (h w' hown hb hlt)
theorem wd_one (w : World) (z : Int) (n : Nat) (hz : z = (n : Int)) (hn : n < 4294967296) (b : Nat) (hb : b = w.heap.size) : Wd (w.alloc (.cells #[.int .u32 z] 31)) (.slice (some ⟨b, 0, none⟩) 1 1) [n] := by
  subst hz
  exact (own_newW w [n] (fun k => by
    unfold gb
    cases k with
    | zero => exact hn
    | succ k => show (0 : Nat) < 4294967296; omega) (by simp) hb (Nat.le_refl _)).rd
theorem below_app {w wr w2 : World} {v : Value} (hb : Below w.heap.size w wr) (hg : wr.grownBy w2 v.ownBlock) (hf : ∀ g, v.ownBlock = some g → w.heap.size ≤ g) : Below w.heap.size w w2 := by
  cases e : v.ownBlock with
  | none => rw [e] at hg; exact hb.on (below_of_grown hg)
  | some g => rw [e] at hg; exact below_then hb hg (hf g e)
theorem alist_nil (w : World) : Calls Tryd.prog 22 #[.pointer none] w fun e w' => e = .returned (.slice none 0 0) ∧ w' = w := by
  go_enter Tryd.func22, Tryd.ntmps22
  go_wp2_with fail
  go_ret
  exact ⟨rfl, rfl⟩
set_option maxHeartbeats 1000000 in
theorem alist_any (b g T : Nat) (u : Nat → Bool) (w : World) (h : Sets w b g T u) (hT : TabD w) : Calls Tryd.prog 22 #[.pointer (some ⟨b, 0, none⟩)] w fun e w' => ∃ v, e = .returned v ∧ OwnW w' w.heap.size v (AL.lst T u) ∧ Below w.heap.size w w' := by
  have hU := aused_any b g T u w h
  have hll := AL.lst_len T u
  obtain ⟨ws, hA, hR⟩ := h
  have hmost := hR.most
  have hlen : ws.length ≤ 1024 := by have := hR.len; omega
  obtain ⟨n, hn⟩ : ∃ n, n = (AL.lst T u).length := ⟨_, rfl⟩
  rw [← hn] at hU hll
  have hn2 : n ≤ 65536 := by omega
  rw [← hR.list]
  have HA := Lib.hid hA
  have HR := Lib.hid hR
  have HT := Lib.hid hT
  have HU := Lib.hid hU
  obtain ⟨B, hB⟩ : ∃ B, B = w.heap.size := ⟨_, rfl⟩
  have HB := Lib.hid hB
  clear hA hR hT hU hn hll hmost hB
  go_enter Tryd.func22, Tryd.ntmps22
  go_upto_region 4 with (first
    | (go_at_call 19; refine HU.out.mono ?_; rintro e1 w1 ⟨rfl, hw1⟩; subst w1)
    | ((with_reducible show wpList _ _ _ (Oper.mk _ (.makeSlice _ _ _) _ _ _ _ :: _) _ _); refine wpList_make0W rfl (.const (.int .i64 0)) (.tmp 9) rfl w.heap.size n hn2 rfl rfl (Nat.le_refl _) ?_; intro w1 ho hb hl; have O1 := Lib.hid ho; have B1 := Lib.hid hb; clear ho hb))
  have c1 := (HA.out.below B1.out).slice
  go_wp2_with fail
  go_loopw [3, 16] (fun s i wr => ∃ (k : Nat) (v : Value), k ≤ ws.length ∧ i = .int .i64 (k : Int) ∧ s = v ∧ OwnW wr w.heap.size v (AL.upto ws k) ∧ Below w.heap.size w wr) (fun _ i _ => ws.length - (intOf i).toNat)
  case atStart => exact ⟨0, _, Nat.zero_le _, rfl, rfl, O1.out, B1.out⟩
  case round =>
    obtain ⟨k, v, hk, hi, hs, ow, bw⟩ := hrel
    subst hi; subst hs
    have OW := Lib.hid ow
    have BW := Lib.hid bw
    clear ow bw
    by_cases hlt : k < ws.length
    · have c2 := (HA.out.below BW.out).word k hlt
      have kl : (k : Int) < (ws.length : Int) := by omega
      have hx := HR.out.word k
      have hsu := AL.upto_succ ws k
      obtain ⟨x, hxe⟩ : ∃ x, x = ws.getD k 0 := ⟨_, rfl⟩
      rw [← hxe] at c2 hx hsu
      have HS := Lib.hid hsu
      have hup := AL.upto_len ws (k + 1)
      clear hxe hsu c1
      go_wp2_with fail
      go_loopw [3, 5] (fun s y wr => ∃ (x : Nat) (v : Value) (l : List Nat), x < 18446744073709551616 ∧ y = .int .u64 (x : Int) ∧ s = v ∧ OwnW wr w.heap.size v l ∧ l ++ (AL.bits x).map (64 * k + ·) = AL.upto ws (k + 1) ∧ Below w.heap.size w wr) (fun _ y _ => (intOf y).toNat)
      case atStart => exact ⟨x, _, _, hx, rfl, rfl, OW.out, HS.out.symm, BW.out⟩
      case round =>
        clear OW BW HS c2 hx
        obtain ⟨y, v, l, hy, hi, hs, ow, hl2, bw⟩ := hrel
        subst hi; subst hs
        have OW := Lib.hid ow
        have BW := Lib.hid bw
        have HL := Lib.hid hl2
        clear ow bw hl2
        by_cases h0 : y = 0
        · have e : l = AL.upto ws (k + 1) := by have := HL.out; rw [h0, AL.bits_zero] at this; simpa using this
          subst h0
          go_wp2_with fail
          exact ⟨⟨k + 1, _, by omega, by go_num, rfl, by rw [← e]; exact OW.out, BW.out⟩, by simp [intOf]; omega⟩
        · obtain ⟨hb1, hb2, hb3⟩ := AL.bits_low y h0 hy
          have h0I : ¬ (y : Int) = 0 := by omega
          have hT2 := HT.out.below BW.out
          have HT2 := Lib.hid hT2
          have HL2 := HL.out
          rw [hb1] at HL2
          obtain ⟨c, hc⟩ : ∃ c, c = Lib.ctz 64 y := ⟨_, rfl⟩
          rw [← hc] at HL2 hb2
          have HC := Lib.hid hc
          have hlen2 : l.length + 1 ≤ 65600 := by
            have := congrArg List.length HL2
            rw [List.length_append, List.map_cons, List.length_cons] at this
            omega
          have HM := Lib.hid HL2
          have hand := u64_and_nat y (y - 1) hy (by omega)
          have hsub : (y : Int) - 1 = ((y - 1 : Nat) : Int) := by omega
          obtain ⟨y2, hy2⟩ : ∃ y2, y2 = y &&& (y - 1) := ⟨_, rfl⟩
          rw [← hsub, ← hy2] at hand
          rw [← hy2] at hb3
          have HY := Lib.hid hy2
          clear hb1 hc HL2 hT2 hsub hy2
          go_wp2_with (first
            | (go_at_call 31; refine (tz_any y h0 hy _ HT2.out).mono ?_; rintro e1 w1 ⟨rfl, hw1⟩; subst w1; rw [← HC.out])
            | ((with_reducible show wpList _ _ _ (Oper.mk _ (.call _) _ _ _ _ :: _) _ _); refine wpList_appW rfl (.tmp 27) (.tmp 34) rfl w.heap.size _ _ l [64 * k + c] rfl rfl (OW.out.alloc _) (wd_one _ _ (64 * k + c) (by omega) (by omega) _ rfl) (by simp; omega) (by have := BW.out.size; simp; omega) ?_; intro v2 w2 ho hg hk2; have O2 := Lib.hid ho; have G2 := Lib.hid hg; clear ho hg hk2))
          refine ⟨⟨y2, v2, l ++ [64 * k + c], by omega, rfl, rfl, O2.out, ?_, ?_⟩, by simp [intOf]; omega⟩
          · have := HM.out
            rw [List.map_cons, ← HY.out] at this
            rw [← this]
            simp
          · exact below_app (v := u3) (BW.out.alloc BW.out.size _) G2.out (fun g hg => (OW.out.from g hg).1)
    · obtain rfl : k = ws.length := by omega
      go_wp2_with fail
      go_ret
      exact ⟨_, rfl, OW.out, BW.out⟩
end Go.Proofs.YtlckhlcccifbfaaDoor
