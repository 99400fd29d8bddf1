/- A sum's digits, in the program: contract. Own work. -/
import Derived.Test.YtaephclooajabaaDoorShaHex
import Derived.OwnWalk
namespace Go.Proofs.YtaephclooajabaaDoor
open Go.ChangeShapes Go.WideShapes Go.ChangeAt Go.RowKit
open SM
theorem low4 (c : Nat) (hc : c < 256) : bits .and .u8 (c : Int) 15 = (c : Int) % 16 := by
  have h := u8_and_nat c 15 hc (by omega)
  refine h.trans ?_
  rw [show (15 : Nat) = 2 ^ 4 - 1 from rfl, Nat.and_two_pow_sub_one_eq_mod]
  simp
set_option maxRecDepth 100000 in
set_option maxHeartbeats 1000000 in
theorem hex_any (l : List Nat) (hn : 2 * l.length ≤ 140737488351232) (v : Value) (w : World) (hv : Rd w v l) :
    Calls Tryd.prog 18 #[v] w fun e w' => e = .returned (.string (bstr (hex l))) ∧ Below w.heap.size w w' := by
  obtain ⟨ao, cap, rfl, hcap⟩ := hv.shape
  obtain ⟨i0, hi, hz0, hz1, hz2⟩ := info_parts infoB
  have HI := Lib.hid hi
  have HZ0 := Lib.hid hz0
  have HZ1 := Lib.hid hz1
  have HB2 := Lib.hid (show i0.bytes * (2 * l.length) ≤ 281474976710656 by rw [hz2]; omega)
  have HB3 := Lib.hid (show 2 * l.length ≤ maxLen by unfold maxLen; omega)
  have HV := Lib.hid hv
  clear hv hi hz0 hz1 hz2
  go_enter Tryd.func18, Tryd.ntmps18
  go_wp2_with (refine wpList_make_own _ rfl (.const (.int .i64 0)) (.tmp 8) 23 rfl w.heap.size 5 i0 (.int .u8 0) 1 Tryd.underlying23 HI.out HZ0.out HZ1.out .i64 .i64 _ (2 * l.length) rfl rfl (by omega) HB2.out HB3.out (Nat.le_refl _) ?_; intro w1 hown hg; have HO := Lib.hid (show Own w1 w.heap.size (.slice (some ⟨w.heap.size, 0, none⟩) 0 (2 * l.length)) [] from ⟨hown, fun k => by rw [gb_nil]; omega, by simp⟩); have HG := Lib.hid (below_of_grown hg); clear hown hg)
  go_loopw [12, 3] (fun i x wr => ∃ k : Nat, k ≤ l.length ∧ i = .int .i64 k ∧ Own wr w.heap.size x (hex (l.take k)) ∧ Below w.heap.size w wr) (fun i _ _ => l.length - (intOf i).toNat)
  case atStart => exact ⟨0, Nat.zero_le _, rfl, by simpa [hex] using HO.out, HG.out⟩
  case round =>
    clear HO HG
    obtain ⟨k, hk, rfl, ho, bb⟩ := hrel
    by_cases hlt : k < l.length
    · obtain ⟨ad, rfl, hc⟩ := (HV.out.below bb).at_ k hlt
      have hb := HV.out.byte k
      obtain ⟨c, hcc⟩ : ∃ c, c = gb l k := ⟨_, rfl⟩
      rw [← hcc] at hc hb
      have HO := Lib.hid ho
      have BB := Lib.hid bb
      have HC := Lib.hid hcc
      have HTK := Lib.hid (hex_take l k hlt)
      have HL := Lib.hid (show (hex (l.take k)).length + [hd (c / 16), hd (c % 16)].length ≤ 140737488351232 by rw [hex_len, List.length_take]; simp; omega)
      clear ho bb hcc
      go_upto_region 5 with (fail)
      refine wp_region_tail (by kernel_rfl) 8 (by decide) (by kernel_rfl) (by kernel_rfl) (by kernel_rfl) [.val u3, .val (.int .u8 (c : Int)), .val (.int .u8 ((c / 16 : Nat) : Int)), .val (.int .u8 ((hd (c / 16) : Nat) : Int)), .val (.int .u8 (c : Int)), .val (.int .u8 ((c % 16 : Nat) : Int)), .val (.int .u8 ((hd (c % 16) : Nat) : Int)), .rd [hd (c / 16), hd (c % 16)]] ?_ ?_
      · refine ⟨?_, ?_, ?_, ?_, ?_, ?_, ?_, ?_, trivial⟩
        · intro a W hF hB hd
          exact does_val rfl (ex_move rfl (hF 3 (by decide +kernel))) rfl
        · intro a W hF hB hd
          exact does_val rfl (ex_move rfl (hF 5 (by decide +kernel))) rfl
        · intro a W hF hB hd
          have e15 : a.eval (.tmp 17) = .int .u8 (c : Int) := hd 1 (by decide +kernel)
          have f17 : a.tmps[17]?.getD undef = .int .u8 (c : Int) := by rw [← Array.getD_eq_getD_getElem?]; exact e15
          exact does_val rfl (by unfold execOp; go_simp) rfl
        · intro a W hF hB hd
          have e16 : a.eval (.tmp 18) = .int .u8 ((c / 16 : Nat) : Int) := hd 2 (by decide +kernel)
          exact does_val rfl (ex_digit (c / 16) rfl e16 (by omega)) rfl
        · intro a W hF hB hd
          exact does_val rfl (ex_move rfl (hF 5 (by decide +kernel))) rfl
        · intro a W hF hB hd
          have e15 : a.eval (.tmp 20) = .int .u8 (c : Int) := hd 4 (by decide +kernel)
          exact does_val rfl (ex_binOp rfl e15 rfl (by go_simp) (by go_simp; exact low4 c hb)) rfl
        · intro a W hF hB hd
          have e16 : a.eval (.tmp 21) = .int .u8 ((c % 16 : Nat) : Int) := hd 5 (by decide +kernel)
          exact does_val rfl (ex_digit (c % 16) rfl e16 (by omega)) rfl
        · intro a W hF hB hd
          have e17 : a.eval (.tmp 19) = .int .u8 ((SM.hd (c / 16) : Nat) : Int) := hd 3 (by decide +kernel)
          have e23 : a.eval (.tmp 22) = .int .u8 ((SM.hd (c % 16) : Nat) : Int) := hd 6 (by decide +kernel)
          have f17 : a.tmps[19]?.getD undef = .int .u8 ((SM.hd (c / 16) : Nat) : Int) := by rw [← Array.getD_eq_getD_getElem?]; exact e17
          have f23 : a.tmps[22]?.getD undef = .int .u8 ((SM.hd (c % 16) : Nat) : Int) := by rw [← Array.getD_eq_getD_getElem?]; exact e23
          refine ⟨rfl, fun K hK => ?_⟩
          have hr := (two_own W (SM.hd (c / 16)) (SM.hd (c % 16)) (hd_lt (by omega)) (hd_lt (by omega))).rd
          unfold Oper.wp execOp
          go_simp
          exact hK _ _ ((Below.refl _ _).alloc (Nat.le_refl _) _) hr
      · intro vs W hB hv
        have e11 : vs 0 = u3 := hv 0 (by omega)
        have e24 : Rd W (vs 7) [hd (c / 16), hd (c % 16)] := hv 7 (by omega)
        have o1 := HO.out.below hB
        have b1 := BB.out.on hB
        have hs1 : w.heap.size ≤ W.heap.size := b1.size
        simp only [List.take_succ_cons, List.take_zero, List.drop_succ_cons, List.drop_zero, putOps, Act.put, List.setIfInBounds_toArray, List.set_cons_zero, List.set_cons_succ, e11]
        generalize vs 7 = y at *
        have E24 := Lib.hid e24
        have O1 := Lib.hid o1
        have B1 := Lib.hid b1
        clear hv e11 e24 o1 b1 hB
        go_wp2_with (at_builtin; refine wpList_app rfl (.tmp 16) (.tmp 23) rfl w.heap.size _ y _ [hd (c / 16), hd (c % 16)] rfl rfl O1.out E24.out HL.out hs1 ?_; intro v2 w2 ho2 hg2 hk2; have O2 := Lib.hid ho2; have B2 := Lib.hid (B1.out.grown hg2 hs1 (fun k hk => (O1.out.from k hk).1)); clear ho2 hg2 hk2)
        refine ⟨⟨k + 1, by omega, by go_num, ?_, B2.out⟩, by simp [intOf]; omega⟩
        rw [HTK.out, ← HC.out]
        exact O2.out
    · obtain rfl : k = l.length := by omega
      rw [List.take_length] at ho
      have hstr := ho.rd.str
      go_wp2_with fail
      go_ret
      exact ⟨rfl, bb⟩
end Go.Proofs.YtaephclooajabaaDoor
