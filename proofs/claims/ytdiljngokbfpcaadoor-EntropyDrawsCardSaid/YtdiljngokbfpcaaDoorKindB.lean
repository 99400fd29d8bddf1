/- Stores into blocks of one kind among the operations of a region that draws (FactsY): single operations. Own work. -/
import Derived.Test.YtdiljngokbfpcaaDoorFactsY
import Derived.Test.YtdiljngokbfpcaaDoorMem
namespace Go.Proofs.YtdiljngokbfpcaaDoor
open Go.RowKit
/-- Blocks of type t. -/
abbrev KindB (t : TypeId) : World → Nat → Prop := fun w g => ∃ cs, Blk w g t cs
theorem kind_apart {w : World} {g b : Nat} {t t' : TypeId} {cur : Array Value} {m : Nat × Nat} (h : KindB t w g) (hb : w.heap[b]? = some (.cells cur t' m)) (ht : t ≠ t') : b ≠ g := fun e => by
  subst e
  obtain ⟨cs, hc⟩ := h
  rw [show w.heap[b]? = _ from hc] at hb
  injection hb with hb
  injection hb with _ h2 _
  exact ht h2
theorem own_apart {w : World} {g base : Nat} {t : TypeId} {v : Value} {l : List Nat} (h : KindB t w g) (ho : Own w base v l) (ht : t ≠ 5) : v.ownBlock ≠ some g := fun e => by
  rcases ho.1.2 with ⟨q, _⟩ | ⟨b, cap, cur, q, _, hh, _⟩
  · rw [q] at e; cases e
  · rw [q] at e
    exact kind_apart h hh ht (Option.some.inj e)
/-- A value in which a slice of the region's own lies. -/
def PredY.ownIn {B : Nat} {t : TypeId} (ht : t ≠ 5) (f : Value → Value) (l : List Nat) : PredY B (KindB t) :=
  ⟨fun v w => ∃ y, v = f y ∧ Own w B y l, true, fun ⟨y, e, ho⟩ hb => ⟨y, e, ho.below hb⟩, fun ⟨y, e, ho⟩ hr hg _ _ => ⟨y, e, ho.keep hg (.inr (own_apart hr ho ht))⟩⟩
def PredY.blk {B : Nat} {R : World → Nat → Prop} (t : TypeId) (vs : List Value) : PredY B R := ⟨fun v w => ∃ c, v = .pointer (some ⟨c, 0, none⟩) ∧ B ≤ c ∧ Blk w c t vs, false,
  fun h hb => by obtain ⟨c, e, hB, hc⟩ := h; exact ⟨c, e, hB, hc.below hb hc.lt⟩,
  fun h _ hg _ hne => by
    obtain ⟨c, e, hB, hc⟩ := h
    refine ⟨c, e, hB, hc.grown hg fun q => ?_⟩
    rcases hne with q2 | q2
    · cases q2
    · apply q2; rw [e]; exact q⟩
section
variable {B : Nat} {t : TypeId} {S : Nat → Nat} {ops : List Oper} {Q : Exit → Act → World → Prop} {T : List (PredY B (KindB t))} {U : Nat → Nat} {i : Nat} {o : Oper} {a : Act} {w : World}
theorem doesY_alloc (hw : Region.wanted o (yielded ops.toArray a.tmps) = true) (hd : o.dst ≠ none) (ty : TypeId) (D : List Value) (ho : o.op = .alloc ty) (hz : ∀ w, (zeroValue ty).run Tryd.prog w = .ok (.agg D.toArray) w) (hB : B ≤ w.heap.size) (hT : T.getD i (PredY.val undef) = .blk ty D) : DoesY Tryd.prog S ops Q T U i o a w := by
  refine doesY_wp hw hd fun K hK => ?_
  have hf : (T.getD i (PredY.val undef)).holds (.pointer (some ⟨w.heap.size, 0, none⟩)) (w.alloc (.cells D.toArray ty)) := by
    rw [hT]; exact ⟨_, rfl, hB, Blk.new w ty D _ rfl⟩
  unfold Oper.wp execOp
  rw [ho]
  go_simp
  refine hK _ _ hf ((Below.refl _ _).alloc (Nat.le_refl _) _) (fun _ g hg => ?_)
  have : w.heap.size = g := Option.some.inj hg
  simp; omega
theorem doesY_store (hw : Region.wanted o (yielded ops.toArray a.tmps) = true) (p : Nat) (x : Operand) (ho : o.op = .store t (.tmp p) x) (hdst : o.dst = none)
    (d : Nat) (hd : d ∈ depsOf o) (hU : U d = i) (D cs : List Value) (hT : T.getD d (PredY.val undef) = .blk t D) (hS : S d = p) (hSi : S i = p) (hp : (PredY.blk t D : PredY B (KindB t)).holds (a.eval (.tmp p)) w) (hx : a.eval x = .agg cs.toArray) (hlen : cs.length = D.length)
    (hi : (Tryd.prog.info? t).map (·.size) = some cs.length) (h1 : cs.toArray.all (·.oneCell') = true) (hTi : T.getD i (PredY.val undef) = .blk t cs) : DoesY Tryd.prog S ops Q T U i o a w := by
  obtain ⟨c, ec, hB, hc⟩ := hp
  have ev : valS S a d = a.eval (.tmp p) := by unfold valS; rw [hS]; rfl
  have evi : valS S a i = a.eval (.tmp p) := by unfold valS; rw [hSi]; rfl
  refine .inl ⟨hw, fun K hK => wp_store_mid t (.tmp p) x ho c 0 cs.toArray ec hx (hc.there _ (by rw [List.size_toArray, hlen])) (by simpa using hi) h1 ?_⟩
  have hg : w.grownBy (w.setCells c 0 cs) (some c) := only_setCells c cs 0 w (World.grownBy.refl w _)
  have hn : Blk (w.setCells c 0 cs) c t cs := hc.whole cs hlen
  have hk := hK (.pointer (some ⟨c, 0, none⟩)) (w.setCells c 0 cs) (by rw [hTi]; exact ⟨c, rfl, hB, hn⟩) (.inr ⟨d, c, hd, hU, by rw [hT]; rfl, by rw [ev, ec]; rfl, hB, ⟨D, hc⟩, hg⟩)
    (fun _ g q => by
      have e : c = g := Option.some.inj q
      subst e
      exact ⟨hn.lt, .inr ⟨d, hd, hU, by rw [hT]; rfl, by rw [ev, ec]; rfl⟩⟩)
    (fun _ => by rw [evi, ec])
  rw [hdst] at hk ⊢
  exact hk
end
end Go.Proofs.YtdiljngokbfpcaaDoor
