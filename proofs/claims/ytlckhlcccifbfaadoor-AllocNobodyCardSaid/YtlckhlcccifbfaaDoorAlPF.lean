/- Package alloc's Fork: contract. Own work. -/
import Derived.Test.YtlckhlcccifbfaaDoorAlPL
namespace Go.Proofs.YtlckhlcccifbfaaDoor
open Go.ChangeShapes Go.WideShapes Go.ChangeAt Go.RowKit
/-- copy of a whole row onto another of the same length. -/
theorem wpList_copy_all {ops : Array Oper} {rest : List Oper} {o : Oper} {a : Act} {w : World} {Q : Exit → Act → World → Prop} (hgd : o.guard = none) (d s : Operand) (dT sT : TypeId)
    (ho : o.op = .call { callee := .builtin .copy, args := #[d, s], argTypes := #[dT, sT] }) (elem : TypeId) (hu : Tryd.prog.underlying dT = some (.slice elem)) (hsz : (Tryd.prog.info? elem).map (·.size) = some 1)
    (g h n : Nat) (cur cs : List Value) (hd : a.eval d = .slice (some ⟨g, 0, none⟩) n n) (hs : a.eval s = .slice (some ⟨h, 0, none⟩) n n) (bg : Blk w g elem cur) (bh : Blk w h elem cs) (l1 : cur.length = n) (l2 : cs.length = n) (h1 : ∀ v ∈ cs, v.oneCell' = true)
    (hk : ∀ w', Blk w' g elem cs → w.grownBy w' (some g) → wpList Tryd.prog ops Q rest (a.put o.dst (goInt n)) w') : wpList Tryd.prog ops Q (o :: rest) a w := by
  by_cases h0 : n = 0
  · subst h0
    obtain rfl := List.eq_nil_of_length_eq_zero l1
    obtain rfl := List.eq_nil_of_length_eq_zero l2
    refine wpList_copy_nothing hgd d s dT sT ho elem hu hsz _ _ 0 0 0 0 hd hs rfl ?_
    exact hk w bg (World.grownBy.refl w _)
  · refine wpList_copy_own hgd d s dT sT ho elem hu hsz g 0 n n ⟨h, 0, none⟩ n n hd hs cur.toArray elem bg cs (by rw [l2]; exact (Nat.min_self n).symm) (fun j v hv => ?_) (by simp; omega) h1 ?_
    · have := bh.cell j v hv
      rw [Addr.add_lit, Nat.zero_add]; exact this
    · rw [l2]
      refine hk _ ?_ ⟨rfl, rfl, rfl, by simp [World.setRow], fun k _ hk => setRow_other w g k _ (fun e => hk (by rw [e]))⟩
      have e : (cur.toArray.toList.take 0 ++ (cs ++ cur.toArray.toList.drop (0 + n))) = cs := by
        simp [List.drop_eq_nil_of_le (show cur.length ≤ n by omega)]
      rw [e]
      exact setRow_heap w g _ _ elem _ bg
theorem below_then {w w2 w3 : World} {g : Nat} (hb : Below w.heap.size w w2) (hg : w2.grownBy w3 (some g)) (h : w.heap.size ≤ g) : Below w.heap.size w w3 :=
  ⟨hg.os.trans hb.os, hg.tape.trans hb.tape, hg.output.trans hb.output, Nat.le_trans hb.size hg.size, fun k hk => (hg.block k (Nat.lt_of_lt_of_le hk hb.size) (fun e => by have := Option.some.inj e; omega)).trans (hb.block k hk)⟩
theorem row64_one (l : List Nat) : ∀ v ∈ row64 l, v.oneCell' = true := by
  intro v hv
  unfold row64 at hv
  obtain ⟨n, _, rfl⟩ := List.mem_map.1 hv
  rfl
theorem infoSizeQ : (Tryd.prog.info? 59).map (·.size) = some 1 := by kernel_rfl
theorem afork_nil (w : World) : Calls Tryd.prog 14 #[.pointer none] w fun e w' => e = .returned (.pointer none) ∧ w' = w := by
  go_enter Tryd.func14, Tryd.ntmps14
  go_wp2_with fail
  go_ret
  exact ⟨rfl, rfl⟩
set_option maxHeartbeats 400000 in
theorem afork_any (b g T : Nat) (u : Nat → Bool) (w : World) (h : Sets w b g T u) : Calls Tryd.prog 14 #[.pointer (some ⟨b, 0, none⟩)] w fun e w' => ∃ b2 g2, e = .returned (.pointer (some ⟨b2, 0, none⟩)) ∧ w.heap.size ≤ b2 ∧ w.heap.size ≤ g2 ∧ Sets w' b2 g2 T u ∧ Below w.heap.size w w' := by
  obtain ⟨ws, hA, hR⟩ := h
  have c0 := hA.total
  have em : most (T : Int) = T := by have := hR.most; unfold most; omega
  have HN := Lib.hid (anew_any (T : Int) w)
  rw [em] at HN
  have HA := Lib.hid hA
  have HR := Lib.hid hR
  clear hA hR em
  go_enter Tryd.func14, Tryd.ntmps14
  go_upto_region 4 with (go_at_call 10; refine HN.out.mono ?_; rintro e1 w1 ⟨nb, ng, rfl, q1, q2, s1, b1⟩; have S1 := Lib.hid s1; have B1 := Lib.hid b1; clear s1 b1)
  obtain ⟨ws2, a2, r2⟩ := S1.out
  have hl : ws2.length = ws.length := by rw [r2.len, HR.out.len]
  have A2 := Lib.hid a2
  have A1 := Lib.hid (HA.out.below B1.out)
  have c1 := A1.out.slice
  have c2 := a2.slice
  rw [hl] at c2
  clear a2 r2 c0
  refine wp_region_still_tail 8 (by kernel_rfl) (by kernel_rfl) ?_
  simp only [List.take_succ_cons, List.take_zero, List.drop_succ_cons, List.drop_zero]
  iterate 8 still_step
  refine wpStill_nil ?_
  change wpList _ _ _ _ _ w1.drew
  obtain ⟨w2, hw2⟩ : ∃ w2, w2 = w1.drew := ⟨_, rfl⟩
  have hd : Below w1.heap.size w1 w2 := by rw [hw2]; exact (Below.refl _ _).drew
  have D1 := Lib.hid (A1.out.below hd)
  have D2 := Lib.hid (A2.out.below hd)
  have BB := Lib.hid (B1.out.on hd)
  rw [← hw2]
  have hlt := A2.out.words.lt
  clear hw2 c1 c2 hd
  go_wp2_with (refine wpList_copy_all rfl (.tmp 14) (.tmp 18) 51 51 rfl 59 Tryd.underlying51 infoSizeQ ng g ws.length (row64 ws2) (row64 ws) rfl rfl D2.out.words D1.out.words (by rw [row64_len, hl]) (row64_len ws) (row64_one ws) ?_; intro w3 bw gw; have BW := Lib.hid bw; have GW := Lib.hid gw; clear bw gw)
  go_ret
  have hb := HA.out.words.lt
  refine ⟨nb, ng, rfl, q1, q2, ⟨ws, ⟨?_, BW.out, D2.out.apart⟩, HR.out⟩, ?_⟩
  · have := Blk.grown D2.out.set GW.out (fun e => D2.out.apart (Option.some.inj e))
    rw [hl] at this
    exact this
  · exact below_then BB.out GW.out q2
end Go.Proofs.YtlckhlcccifbfaaDoor
