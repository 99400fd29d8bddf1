/- A store among the operations of a region that draws (FactsS). Own work. -/
import Derived.Test.YtglhlhflbomkoaaFactsS
import Derived.Test.YtglhlhflbomkoaaFillTo
namespace Go.Proofs.Ytglhlhflbomkoaa
open Go.ChangeShapes Go.WideShapes Go.ChangeAt Go.RowKit
theorem doesS_store {B : Nat} {S : Nat → Nat} {ops : List Oper} {Q : Exit → Act → World → Prop} {T : List (Pred B)} {U : Nat → Nat} {i : Nat} {o : Oper} {a : Act} {w : World} (hw : Region.wanted o (yielded ops.toArray a.tmps) = true) (ty t : TypeId) (p : Nat) (x : Operand) (ho : o.op = .store ty (.tmp p) x) (hdst : o.dst = none)
    (d : Nat) (hd : d ∈ depsOf o) (hU : U d = i) (D cs : List Value) (hT : T.getD d (.val undef) = .blk t D) (hS : S d = p) (hSi : S i = p) (hp : (Pred.blk t D : Pred B).holds (a.eval (.tmp p)) w) (hx : a.eval x = .agg cs.toArray) (hlen : cs.length = D.length)
    (hi : (Try.prog.info? ty).map (·.size) = some cs.length) (h1 : cs.toArray.all (·.oneCell') = true) (hTi : T.getD i (.val undef) = .blk t cs) : DoesS Try.prog S ops Q T U i o a w := by
  obtain ⟨c, ec, hB, hc⟩ := hp
  have ev : valS S a d = a.eval (.tmp p) := by unfold valS; rw [hS]; rfl
  have evi : valS S a i = a.eval (.tmp p) := by unfold valS; rw [hSi]; rfl
  refine .inl ⟨hw, fun K hK => wp_store_mid ty (.tmp p) x ho c 0 cs.toArray ec hx (hc.there _ (by rw [List.size_toArray, hlen])) (by simpa using hi) h1 ?_⟩
  have hg : w.grownBy (w.setCells c 0 cs) (some c) := only_setCells c cs 0 w (World.grownBy.refl w _)
  have hn : Blk (w.setCells c 0 cs) c t cs := hc.whole cs hlen
  have hk := hK (.pointer (some ⟨c, 0, none⟩)) (w.setCells c 0 cs) (by rw [hTi]; exact ⟨c, rfl, hB, hn⟩) (.inr ⟨d, c, hd, hU, by rw [hT]; rfl, by rw [ev, ec]; rfl, hB, hg⟩)
    (fun _ g q => by
      have e : c = g := Option.some.inj q
      subst e
      exact ⟨hn.lt, .inr ⟨d, hd, hU, by rw [hT]; rfl, by rw [ev, ec]; rfl⟩⟩)
    (fun _ => by rw [evi, ec])
  rw [hdst] at hk ⊢
  exact hk
end Go.Proofs.Ytglhlhflbomkoaa
