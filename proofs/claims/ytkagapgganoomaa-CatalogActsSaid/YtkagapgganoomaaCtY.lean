/- Catalogs told and stored among the operations of a region that draws (FactsY). Own work. -/
import Derived.Test.YtkagapgganoomaaCtEq
import Derived.Test.YtkagapgganoomaaFacY
import Derived.Test.YtkagapgganoomaaFactX
namespace Go.Proofs.Ytkagapgganoomaa
open Go.ChangeShapes Go.WideShapes Go.ChangeAt Go.RowKit
open RT CT
theorem ct_ne_sn : 60 ≠ 29 := by decide
theorem snap_apart {w : World} {g base n : Nat} {v : Value} {cs : List Value} (h : KindB 29 w g) (ho : w.ownsRow base 60 34 v n cs) : v.ownBlock ≠ some g := fun e => by
  rcases ho.2 with ⟨q, _⟩ | ⟨b, cap, cur, q, _, hh, _⟩
  · rw [q] at e; cases e
  · rw [q] at e
    exact kind_apart h hh (Ne.symm ct_ne_sn) (Option.some.inj e)
/-- A value in which a slice of snapshots lies. -/
def PredY.snIn {B : Nat} (f : Value → Value) (n : Nat) (cs : List Value) : PredY B (KindB 29) :=
  ⟨fun v w => ∃ u, v = f u ∧ w.ownsRow B 60 34 u n cs, true, fun ⟨u, e, ho⟩ hb => ⟨u, e, owned_below ho hb⟩, fun ⟨u, e, ho⟩ hr hg _ _ => ⟨u, e, World.ownsRow.kept ho hg (.inr (snap_apart hr ho))⟩⟩
/-- A variable that holds a catalog. -/
def PredY.boxIn {B : Nat} (top : List Value) (n : Nat) (cs : List Value) : PredY B (KindB 29) :=
  ⟨fun v w => ∃ c u, v = .pointer (some ⟨c, 0, none⟩) ∧ B ≤ c ∧ Blk w c 29 (top ++ [u]) ∧ w.ownsRow B 60 34 u n cs, false,
  fun ⟨c, u, e, hB, hc, ho⟩ hb => ⟨c, u, e, hB, hc.below hb hc.lt, owned_below ho hb⟩,
  fun ⟨c, u, e, hB, hc, ho⟩ hr hg _ hne => ⟨c, u, e, hB, hc.grown hg (fun q => by
    rcases hne with q2 | q2
    · cases q2
    · apply q2; rw [e]; exact q), World.ownsRow.kept ho hg (.inr (snap_apart hr ho))⟩⟩
section
variable {B : Nat} {S : Nat → Nat} {ops : List Oper} {Q : Exit → Act → World → Prop} {T : List (PredY B (KindB 29))} {U : Nat → Nat} {i : Nat} {o : Oper} {a : Act} {w : World}
theorem doesY_storeC (hw : Region.wanted o (yielded ops.toArray a.tmps) = true) (p : Nat) (x : Operand) (ho : o.op = .store 29 (.tmp p) x) (hdst : o.dst = none)
    (d : Nat) (hd : d ∈ depsOf o) (hU : U d = i) (D top : List Value) (u : Value) (n : Nat) (cs : List Value) (hT : T.getD d (PredY.val undef) = .blk 29 D) (hS : S d = p) (hSi : S i = p) (hp : (PredY.blk 29 D : PredY B (KindB 29)).holds (a.eval (.tmp p)) w) (hx : a.eval x = .agg (top ++ [u]).toArray) (hlen : (top ++ [u]).length = D.length)
    (hi : (Try.prog.info? 29).map (·.size) = some (top ++ [u]).length) (h1 : (top ++ [u]).toArray.all (·.oneCell') = true) (how : w.ownsRow B 60 34 u n cs) (hTi : T.getD i (PredY.val undef) = .boxIn top n cs) : DoesY Try.prog S ops Q T U i o a w := by
  obtain ⟨c, ec, hB, hc⟩ := hp
  have ev : valS S a d = a.eval (.tmp p) := by unfold valS; rw [hS]; rfl
  have evi : valS S a i = a.eval (.tmp p) := by unfold valS; rw [hSi]; rfl
  refine .inl ⟨hw, fun K hK => wp_store_mid 29 (.tmp p) x ho c 0 (top ++ [u]).toArray ec hx (hc.there _ (by rw [List.size_toArray, hlen])) (by simpa using hi) h1 ?_⟩
  have hg : w.grownBy (w.setCells c 0 (top ++ [u])) (some c) := only_setCells c (top ++ [u]) 0 w (World.grownBy.refl w _)
  have hn : Blk (w.setCells c 0 (top ++ [u])) c 29 (top ++ [u]) := hc.whole (top ++ [u]) hlen
  have hk := hK (.pointer (some ⟨c, 0, none⟩)) (w.setCells c 0 (top ++ [u])) (by rw [hTi]; exact ⟨c, u, rfl, hB, hn, World.ownsRow.kept how hg (.inr (snap_apart ⟨D, hc⟩ how))⟩) (.inr ⟨d, c, hd, hU, by rw [hT]; rfl, by rw [ev, ec]; rfl, hB, ⟨D, hc⟩, hg⟩)
    (fun _ g q => by
      have e : c = g := Option.some.inj q
      subst e
      exact ⟨hn.lt, .inr ⟨d, hd, hU, by rw [hT]; rfl, by rw [ev, ec]; rfl⟩⟩)
    (fun _ => by rw [evi, ec])
  rw [hdst] at hk ⊢
  exact hk
end
end Go.Proofs.Ytkagapgganoomaa
