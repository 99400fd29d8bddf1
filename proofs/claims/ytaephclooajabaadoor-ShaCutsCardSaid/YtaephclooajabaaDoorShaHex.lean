/- A sum's digits, as the document says: contracts. Own work. -/
import Derived.Test.YtaephclooajabaaDoorShaBits
import Derived.Test.YtaephclooajabaaDoorRdCut
import Derived.Test.YtaephclooajabaaDoorFactsTail
import Derived.Deep.RegionLaw
import Derived.Outline
namespace Go.Proofs.YtaephclooajabaaDoor
open Go.ChangeShapes Go.WideShapes Go.ChangeAt Go.RowKit
namespace SM
/-- A digit. -/
def hd (n : Nat) : Nat := if n < 10 then 48 + n else 87 + n
/-- Two digits a byte. -/
def hex (l : List Nat) : List Nat := l.flatMap fun b => [hd (b / 16), hd (b % 16)]
theorem hd_lt {n : Nat} (h : n < 16) : hd n < 256 := by unfold hd; split <;> omega
theorem hex_len (l : List Nat) : (hex l).length = 2 * l.length := by
  induction l with
  | nil => rfl
  | cons x r ih =>
    unfold hex at ih ⊢
    rw [List.flatMap_cons, List.length_append, ih, List.length_cons]
    show 2 + 2 * r.length = 2 * (r.length + 1)
    omega
theorem hex_take (l : List Nat) (k : Nat) (hk : k < l.length) : hex (l.take (k + 1)) = hex (l.take k) ++ [hd (gb l k / 16), hd (gb l k % 16)] := by
  unfold hex
  rw [List.take_succ_eq_append_getElem hk, List.flatMap_append]
  congr 1
  unfold gb; rw [List.getD_eq_getElem?_getD, List.getElem?_eq_getElem hk]; rfl
/-- A digit's value. -/
def dg (c : Nat) : Int := if 48 ≤ c ∧ c ≤ 57 then (c : Int) - 48 else if 97 ≤ c ∧ c ≤ 102 then (c : Int) - 87 else -1
end SM
open SM
set_option maxHeartbeats 400000 in
theorem digit_any (c : Nat) (_hc : c < 256) (w : World) : Calls Tryd.prog 28 #[.int .u8 c] w fun e w' => e = .returned (.int .i64 (dg c)) ∧ w' = w := by
  by_cases h0 : 48 ≤ c
  · by_cases h1 : c ≤ 57
    · have hd : dg c = (c : Int) - 48 := by unfold dg; rw [if_pos ⟨h0, h1⟩]
      have i0 : (48 : Int) ≤ c := by omega
      have i1 : (c : Int) ≤ 57 := by omega
      rw [hd]; clear hd
      go_enter Tryd.func28, Tryd.ntmps28
      go_wp2_with fail
      go_ret
      exact ⟨rfl, rfl⟩
    · have i0 : (48 : Int) ≤ c := by omega
      have i1 : ¬ (c : Int) ≤ 57 := by omega
      by_cases h2 : 97 ≤ c
      · by_cases h3 : c ≤ 102
        · have hd : dg c = (c : Int) - 97 + 10 := by unfold dg; rw [if_neg (by omega), if_pos ⟨h2, h3⟩]; omega
          have i2 : (97 : Int) ≤ c := by omega
          have i3 : (c : Int) ≤ 102 := by omega
          rw [hd]; clear hd
          go_enter Tryd.func28, Tryd.ntmps28
          go_wp2_with fail
          go_ret
          exact ⟨rfl, rfl⟩
        · have hd : dg c = -1 := by unfold dg; rw [if_neg (by omega), if_neg (by omega)]
          have i2 : (97 : Int) ≤ c := by omega
          have i3 : ¬ (c : Int) ≤ 102 := by omega
          rw [hd]; clear hd
          go_enter Tryd.func28, Tryd.ntmps28
          go_wp2_with fail
          go_ret
          exact ⟨rfl, rfl⟩
      · have hd : dg c = -1 := by unfold dg; rw [if_neg (by omega), if_neg (by omega)]
        have i2 : ¬ (97 : Int) ≤ c := by omega
        rw [hd]; clear hd
        go_enter Tryd.func28, Tryd.ntmps28
        go_wp2_with fail
        go_ret
        exact ⟨rfl, rfl⟩
  · have hd : dg c = -1 := by unfold dg; rw [if_neg (by omega), if_neg (by omega)]
    have i0 : ¬ (48 : Int) ≤ c := by omega
    have i2 : ¬ (97 : Int) ≤ c := by omega
    rw [hd]; clear hd
    go_enter Tryd.func28, Tryd.ntmps28
    go_wp2_with fail
    go_ret
    exact ⟨rfl, rfl⟩
theorem own_nil' (w : World) : Own w w.heap.size (.slice none 0 0) [] := ⟨World.ownsRow_nil w _ _ _, fun k => by rw [gb_nil]; omega, by simp⟩
theorem two_own (w : World) (x y : Nat) (hx : x < 256) (hy : y < 256) : Own (w.alloc (.cells #[.int .u8 (x : Int), .int .u8 (y : Int)] 5)) w.heap.size (.slice (some ⟨w.heap.size, 0, none⟩) 2 2) [x, y] :=
  own_new w [x, y] (fun k => by
    rcases k with _ | _ | k
    · exact hx
    · exact hy
    · exact Nat.zero_lt_succ _) (by show 2 ≤ _; omega) rfl (Nat.le_refl _)
def digs : ByteArray := ⟨#[48, 49, 50, 51, 52, 53, 54, 55, 56, 57, 97, 98, 99, 100, 101, 102]⟩
set_option maxHeartbeats 1000000 in
theorem ex_digit {o : Oper} {a : Act} {w : World} {x : Operand} (n : Nat) (ho : o.op = .index 9 (.const (.string digs)) x) (hx : a.eval x = .int .u8 (n : Int)) (hn : n < 16) :
    (execOp a.eval o).run Tryd.prog w = .ok (.value (.int .u8 ((hd n : Nat) : Int))) w := by
  have h : ∀ m : Fin 16, (Instr.index 9 (.string digs) (.int .u8 ((m.1 : Nat) : Int))).run Tryd.prog w = .ok (.int .u8 ((hd m.1 : Nat) : Int)) w := by
    intro m
    rcases m with ⟨m, hm⟩
    have : m = 0 ∨ m = 1 ∨ m = 2 ∨ m = 3 ∨ m = 4 ∨ m = 5 ∨ m = 6 ∨ m = 7 ∨ m = 8 ∨ m = 9 ∨ m = 10 ∨ m = 11 ∨ m = 12 ∨ m = 13 ∨ m = 14 ∨ m = 15 := by omega
    rcases this with rfl | rfl | rfl | rfl | rfl | rfl | rfl | rfl | rfl | rfl | rfl | rfl | rfl | rfl | rfl | rfl <;> (show _ = _; rfl)
  have h1 := h ⟨n, hn⟩
  unfold execOp
  rw [ho]
  have h2 : a.eval (.const (.string digs)) = .string digs := rfl
  simp only [h2, hx, Sem.run_bind, h1, Result.andThen_ok, Sem.run_pure]
theorem ex_at {ops : List Oper} {Q : Exit → Act → World → Prop} {o : Oper} {a : Act} {w : World} {x y : Operand} {ad : Addr} {n cap k : Nat} (hw : Region.wanted o (yielded ops.toArray a.tmps) = true) (hf : o.guard = none) (ho : o.op = .indexAddr 23 x y) (hx : a.eval x = .slice (some ad) n cap) (hy : a.eval y = .int .i64 (k : Int)) (hk : k < n) :
    Does Tryd.prog ops Q o a w (.val (.pointer (some (ad.add k)))) := by
  refine does_val hw ?_ rfl
  have _ := hf
  have q : (k : Int) < (n : Int) := by omega
  unfold execOp
  rw [ho]
  simp only [hx, hy]
  go_simp
theorem ex_byte {ops : List Oper} {Q : Exit → Act → World → Prop} {o : Oper} {a : Act} {w : World} {x : Operand} {ad : Addr} {v : Value} (hw : Region.wanted o (yielded ops.toArray a.tmps) = true) (ho : o.op = .load 5 x) (hx : a.eval x = .pointer (some ad)) (hc : w.cell? ad = some v) :
    Does Tryd.prog ops Q o a w (.val v) := by
  refine does_val hw ?_ rfl
  unfold execOp
  rw [ho]
  simp only [hx]
  go_simp
set_option maxRecDepth 100000 in
set_option maxHeartbeats 1000000 in
theorem rhex_any (l : List Nat) (hn : 2 * l.length ≤ 140737488351232) (v : Value) (w : World) (hv : Rd w v l) :
    Calls Tryd.prog 19 #[v] w fun e w' => e = .returned (.string (bstr (hex l))) ∧ Below w.heap.size w w' := by
  obtain ⟨ao, cap, rfl, hcap⟩ := hv.shape
  have HV := Lib.hid hv
  clear hv
  go_enter Tryd.func19, Tryd.ntmps19
  go_wp2_with fail
  go_loopw [3, 4] (fun x i wr => ∃ k : Nat, k ≤ l.length ∧ i = .int .i64 k ∧ Own wr w.heap.size x (hex (l.take k)) ∧ Below w.heap.size w wr) (fun _ i _ => l.length - (intOf i).toNat)
  case atStart => exact ⟨0, Nat.zero_le _, rfl, by simpa [hex] using own_nil' w, Below.refl _ _⟩
  case round =>
    obtain ⟨k, hk, rfl, ho, bb⟩ := hrel
    have HO := Lib.hid ho
    have BB := Lib.hid bb
    clear ho bb
    by_cases hlt : k < l.length
    · obtain ⟨ad, rfl, hc⟩ := (HV.out.below BB.out).at_ k hlt
      have hb := HV.out.byte k
      obtain ⟨c, hcc⟩ : ∃ c, c = gb l k := ⟨_, rfl⟩
      rw [← hcc] at hc hb
      have HC := Lib.hid hcc
      have HCL := Lib.hid (show ∀ W, Below wr.heap.size wr W → W.cell? (ad.add k) = some (.int .u8 (c : Int)) from fun W hW => by
        have hlt' := World.block_lt_of_cell? wr _ hc
        rw [World.cell?_of_block (w := wr) (hW.block _ hlt')]; exact hc)
      have HTK := Lib.hid (hex_take l k hlt)
      have HL := Lib.hid (show (hex (l.take k)).length + [hd (c / 16), hd (c % 16)].length ≤ 140737488351232 by rw [hex_len, List.length_take]; simp; omega)
      clear hcc hc
      go_upto_region 5 with (fail)
      refine wp_region_tail (by kernel_rfl) 14 (by decide) (by kernel_rfl) (by kernel_rfl) (by kernel_rfl) [.val u3, .val (.slice (some ad) l.length cap), .val (.int .i64 (k : Int)), .val (.pointer (some (ad.add k))), .val (.int .u8 (c : Int)), .val (.int .u8 ((c / 16 : Nat) : Int)), .val (.int .u8 ((hd (c / 16) : Nat) : Int)), .val (.slice (some ad) l.length cap), .val (.int .i64 (k : Int)), .val (.pointer (some (ad.add k))), .val (.int .u8 (c : Int)), .val (.int .u8 ((c % 16 : Nat) : Int)), .val (.int .u8 ((hd (c % 16) : Nat) : Int)), .rd [hd (c / 16), hd (c % 16)]] ?_ ?_
      · refine ⟨?_, ?_, ?_, ?_, ?_, ?_, ?_, ?_, ?_, ?_, ?_, ?_, ?_, ?_, trivial⟩
        · intro a W hF hB hd
          exact does_val rfl (ex_move rfl (hF 3 (by decide +kernel))) rfl
        · intro a W hF hB hd
          exact does_val rfl (ex_move rfl (hF 0 (by decide +kernel))) rfl
        · intro a W hF hB hd
          exact does_val rfl (ex_move rfl (hF 4 (by decide +kernel))) rfl
        · intro a W hF hB hd
          have e12 : a.eval (.tmp 12) = .slice (some ad) l.length cap := hd 1 (by decide +kernel)
          have e13 : a.eval (.tmp 13) = .int .i64 (k : Int) := hd 2 (by decide +kernel)
          exact ex_at rfl rfl rfl e12 e13 hlt
        · intro a W hF hB hd
          have e14 : a.eval (.tmp 14) = .pointer (some (ad.add k)) := hd 3 (by decide +kernel)
          exact ex_byte rfl rfl e14 (HCL.out W hB)
        · intro a W hF hB hd
          have e15 : a.eval (.tmp 15) = .int .u8 (c : Int) := hd 4 (by decide +kernel)
          exact does_val rfl (ex_binOp rfl e15 rfl (by go_simp) (by go_simp; rw [IntKind.wrap_u8]; omega)) rfl
        · intro a W hF hB hd
          have e16 : a.eval (.tmp 16) = .int .u8 ((c / 16 : Nat) : Int) := hd 5 (by decide +kernel)
          exact does_val rfl (ex_digit (c / 16) rfl e16 (by omega)) rfl
        · intro a W hF hB hd
          exact does_val rfl (ex_move rfl (hF 0 (by decide +kernel))) rfl
        · intro a W hF hB hd
          exact does_val rfl (ex_move rfl (hF 4 (by decide +kernel))) rfl
        · intro a W hF hB hd
          have e12 : a.eval (.tmp 18) = .slice (some ad) l.length cap := hd 7 (by decide +kernel)
          have e13 : a.eval (.tmp 19) = .int .i64 (k : Int) := hd 8 (by decide +kernel)
          exact ex_at rfl rfl rfl e12 e13 hlt
        · intro a W hF hB hd
          have e14 : a.eval (.tmp 20) = .pointer (some (ad.add k)) := hd 9 (by decide +kernel)
          exact ex_byte rfl rfl e14 (HCL.out W hB)
        · intro a W hF hB hd
          have e15 : a.eval (.tmp 21) = .int .u8 (c : Int) := hd 10 (by decide +kernel)
          exact does_val rfl (ex_binOp rfl e15 rfl (by go_simp) (by go_simp; exact Int.tmod_eq_emod_of_nonneg (Int.natCast_nonneg _))) rfl
        · intro a W hF hB hd
          have e16 : a.eval (.tmp 22) = .int .u8 ((c % 16 : Nat) : Int) := hd 11 (by decide +kernel)
          exact does_val rfl (ex_digit (c % 16) rfl e16 (by omega)) rfl
        · intro a W hF hB hd
          have e17 : a.eval (.tmp 17) = .int .u8 ((SM.hd (c / 16) : Nat) : Int) := hd 6 (by decide +kernel)
          have e23 : a.eval (.tmp 23) = .int .u8 ((SM.hd (c % 16) : Nat) : Int) := hd 12 (by decide +kernel)
          have f17 : a.tmps[17]?.getD undef = .int .u8 ((SM.hd (c / 16) : Nat) : Int) := by rw [← Array.getD_eq_getD_getElem?]; exact e17
          have f23 : a.tmps[23]?.getD undef = .int .u8 ((SM.hd (c % 16) : Nat) : Int) := by rw [← Array.getD_eq_getD_getElem?]; exact e23
          refine ⟨rfl, fun K hK => ?_⟩
          have hr := (two_own W (SM.hd (c / 16)) (SM.hd (c % 16)) (hd_lt (by omega)) (hd_lt (by omega))).rd
          unfold Oper.wp execOp
          go_simp
          exact hK _ _ ((Below.refl _ _).alloc (Nat.le_refl _) _) hr
      · intro vs W hB hv
        have e11 : vs 0 = u3 := hv 0 (by omega)
        have e24 : Rd W (vs 13) [hd (c / 16), hd (c % 16)] := hv 13 (by omega)
        have o1 := HO.out.below hB
        have b1 := BB.out.on hB
        have hs1 : w.heap.size ≤ W.heap.size := b1.size
        simp only [List.take_succ_cons, List.take_zero, List.drop_succ_cons, List.drop_zero, putOps, Act.put, List.setIfInBounds_toArray, List.set_cons_zero, List.set_cons_succ, e11]
        generalize vs 13 = y at *
        have E24 := Lib.hid e24
        have O1 := Lib.hid o1
        have B1 := Lib.hid b1
        clear hv e11 e24 o1 b1 hB
        go_wp2_with (at_builtin; refine wpList_app rfl (.tmp 11) (.tmp 24) rfl w.heap.size _ y _ [hd (c / 16), hd (c % 16)] rfl rfl O1.out E24.out HL.out hs1 ?_; intro v2 w2 ho2 hg2 hk2; have O2 := Lib.hid ho2; have B2 := Lib.hid (B1.out.grown hg2 hs1 (fun k hk => (O1.out.from k hk).1)); clear ho2 hg2 hk2)
        refine ⟨⟨k + 1, by omega, by go_num, ?_, B2.out⟩, by simp [intOf]; omega⟩
        rw [HTK.out, ← HC.out]
        exact O2.out
    · obtain rfl : k = l.length := by omega
      rw [List.take_length] at HO
      have hstr := HO.out.rd.str
      go_wp2_with fail
      go_ret
      exact ⟨rfl, BB.out⟩
end Go.Proofs.YtaephclooajabaaDoor
