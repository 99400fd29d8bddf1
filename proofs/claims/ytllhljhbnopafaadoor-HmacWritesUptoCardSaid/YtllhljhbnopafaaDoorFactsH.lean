/- What single operations do, for the general law of a region that draws. Own work. -/
import Derived.Test.YtllhljhbnopafaaDoorFactsG
import Derived.Test.YtllhljhbnopafaaDoorShaParts
namespace Go.Proofs.YtllhljhbnopafaaDoor
open Go.ChangeShapes Go.WideShapes Go.ChangeAt Go.RowKit
section
variable {B : Nat} {P : Program} {ops : List Oper} {Q : Exit → Act → World → Prop} {T : List (Pred B)} {U : Nat → Nat} {i : Nat} {o : Oper} {a : Act} {w : World}
/-- A value of which something firm is known. -/
theorem doesG_val {v : Value} (hw : Region.wanted o (yielded ops.toArray a.tmps) = true) (h : (execOp a.eval o).run P w = .ok (.value v) w) (hf : (T.getD i (.val undef)).holds v w) (hfirm : (T.getD i (.val undef)).firm = true) : DoesG P ops Q T U i o a w := by
  refine .inl ⟨hw, fun K hK => ?_⟩
  unfold Oper.wp
  rw [h, Oper.upon_value]
  exact hK v w hf (.inl (Below.refl _ _)) (fun e => by rw [hfirm] at e; cases e)
theorem doesG_wp (hw : Region.wanted o (yielded ops.toArray a.tmps) = true) (hfirm : (T.getD i (.val undef)).firm = true)
    (h : ∀ K : Act → World → Prop, (∀ v w', (T.getD i (.val undef)).holds v w' → Below w.heap.size w w' → K (a.put o.dst v) w') → o.wp P a w K Q) : DoesG P ops Q T U i o a w :=
  .inl ⟨hw, fun K hK => h K fun v w' hf hb => hK v w' hf (.inl hb) (fun e => by rw [hfirm] at e; cases e)⟩
/-- An operation whose guard is not met. -/
theorem doesG_skip (hw : Region.wanted o (yielded ops.toArray a.tmps) = false) (hT : T.getD i (.val undef) = .val undef) : DoesG P ops Q T U i o a w :=
  .inr ⟨hw, by rw [hT]; rfl, by rw [hT]; rfl⟩
theorem unwanted_of {j : Nat} {b c : Bool} (hg : o.guard = some (j, b)) (h : yielded ops.toArray a.tmps j = some c) (hbc : c ≠ b) : Region.wanted o (yielded ops.toArray a.tmps) = false := by
  unfold Region.wanted
  rw [hg]
  show (yielded ops.toArray a.tmps j == some b) = false
  rw [h]; simp [hbc]
/-- A value in memory of its own. -/
theorem doesG_new (hw : Region.wanted o (yielded ops.toArray a.tmps) = true)
    (h : ∀ K : Act → World → Prop, (∀ v w', (T.getD i (.val undef)).holds v w' → Below w.heap.size w w' → (∀ g, held v = some g → w.heap.size ≤ g ∧ g < w'.heap.size) → K (a.put o.dst v) w') → o.wp P a w K Q) : DoesG P ops Q T U i o a w :=
  .inl ⟨hw, fun K hK => h K fun v w' hf hb hg => hK v w' hf (.inl hb) (fun _ g e => ⟨(hg g e).2, .inl (hg g e).1⟩)⟩
theorem doesG_call {g : FuncId} {args : Array Value} (hw : Region.wanted o (yielded ops.toArray a.tmps) = true) (h : (execOp a.eval o).run P w = .ok (.enter g args) w) (hfirm : (T.getD i (.val undef)).firm = true)
    (hc : Calls P g args w fun e w' => ∃ v, e = .returned v ∧ (T.getD i (.val undef)).holds v w' ∧ Below w.heap.size w w') : DoesG P ops Q T U i o a w :=
  doesG_wp hw hfirm fun K hK => by
    unfold Oper.wp
    rw [h, Oper.upon_enter]
    refine hc.mono fun e w' hh => ?_
    obtain ⟨v, rfl, hf, hb⟩ := hh
    exact hK v w' hf hb
theorem doesG_made {g : FuncId} {args : Array Value} (hw : Region.wanted o (yielded ops.toArray a.tmps) = true) (h : (execOp a.eval o).run P w = .ok (.enter g args) w)
    (hc : Calls P g args w fun e w' => ∃ v, e = .returned v ∧ (T.getD i (.val undef)).holds v w' ∧ Below w.heap.size w w' ∧ ∀ g, held v = some g → w.heap.size ≤ g ∧ g < w'.heap.size) : DoesG P ops Q T U i o a w :=
  doesG_new hw fun K hK => by
    unfold Oper.wp
    rw [h, Oper.upon_enter]
    refine hc.mono fun e w' hh => ?_
    obtain ⟨v, rfl, hf, hb, hg⟩ := hh
    exact hK v w' hf hb hg
end
section
variable {B : Nat} {ops : List Oper} {Q : Exit → Act → World → Prop} {T : List (Pred B)} {U : Nat → Nat} {i : Nat} {o : Oper} {a : Act} {w : World}
/-- append onto a slice of the region's own, which is used up. -/
theorem doesG_app (hw : Region.wanted o (yielded ops.toArray a.tmps) = true) (s x : Operand) (ho : o.op = .call { callee := .builtin .append, args := #[s, x], argTypes := #[22, 22] })
    (d : Nat) (hd : d ∈ depsOf o) (hu : U d = i) (hn : (T.getD d (.val undef)).firm = false) (v y : Value) (l m : List Nat) (hvd : valOf ops a d = v) (hs : a.eval s = v) (hx : a.eval x = y) (hv : Own w B v l) (hy : Rd w y m) (hl : l.length + m.length ≤ 140737488351232) (hB : B ≤ w.heap.size)
    (hf : ∀ v' w', Own w' B v' (l ++ m) → (T.getD i (.val undef)).holds v' w') : DoesG Tryd.prog ops Q T U i o a w := by
  refine .inl ⟨hw, fun K hK => wp_app s x ho B v y l m hs hx hv hy hl hB fun v' w' ho' hg hk => ?_⟩
  refine hK v' w' (hf v' w' ho') ?_ (fun _ g hgv => ?_)
  · cases e : v.ownBlock with
    | none => rw [e] at hg; exact .inl (below_of_grown hg)
    | some g =>
      rw [e] at hg
      exact .inr ⟨d, g, hd, hu, hn, by rw [hvd]; exact own_held e, (hv.from g e).1, hg⟩
  · have e := own_held' ho'.rd hgv
    refine ⟨(ho'.from g e).2, ?_⟩
    rcases hk with q | q
    · rw [e] at q
      exact .inr ⟨d, hd, hu, hn, by rw [hvd]; exact own_held q.symm⟩
    · rw [e] at q
      have : g = w.heap.size := Option.some.inj q
      exact .inl (by omega)
/-- An empty slice of bytes is made. -/
theorem doesG_empty (hw : Region.wanted o (yielded ops.toArray a.tmps) = true) (ho : o.op = .buildSlice 22 0 #[]) (hB : B ≤ w.heap.size) (hf : ∀ v' w', Own w' B v' [] → (T.getD i (.val undef)).holds v' w') : DoesG Tryd.prog ops Q T U i o a w := by
  refine doesG_new hw fun K hK => ?_
  unfold Oper.wp execOp
  rw [ho]
  go_simp
  refine hK _ _ (hf _ _ (own_empty w rfl hB)) ((Below.refl _ _).alloc (Nat.le_refl _) _) (fun g hg => ?_)
  have : w.heap.size = g := Option.some.inj hg
  simp; omega
/-- A slice of one byte is made. -/
theorem doesG_byte (hw : Region.wanted o (yielded ops.toArray a.tmps) = true) (n : Nat) (hn : n < 256) (ho : o.op = .buildSlice 22 1 #[(0, .const (.int .u8 (n : Int)))]) (hB : B ≤ w.heap.size) (hf : ∀ v' w', Own w' B v' [n] → (T.getD i (.val undef)).holds v' w') : DoesG Tryd.prog ops Q T U i o a w := by
  refine doesG_new hw fun K hK => ?_
  unfold Oper.wp execOp
  rw [ho]
  go_simp
  refine hK _ _ (hf _ _ (own_new w [n] (fun k => ?_) (by simp) rfl hB)) ((Below.refl _ _).alloc (Nat.le_refl _) _) (fun g hg => ?_)
  · cases k with
    | zero => exact hn
    | succ k => exact Nat.zero_lt_succ _
  · have : w.heap.size = g := Option.some.inj hg
    simp; omega
end
/-- A slice of slices of bytes, made in the region, of slices that are older than it. -/
def Olds (B : Nat) (v : Value) (ls : List (List Nat)) (w : World) : Prop :=
  ∃ b xs, v = .slice (some ⟨b, 0, none⟩) ls.length ls.length ∧ xs.length = ls.length ∧ Blk w b 22 xs ∧ ls.length ≤ 140737488351232 ∧ ∀ (j : Nat) (x : Value) (l : List Nat), xs[j]? = some x → ls[j]? = some l → Rd w x l ∧ (0 < l.length → ∀ g, B ≤ g → x.ownBlock ≠ some g)
theorem Olds.rds {B : Nat} {v : Value} {ls : List (List Nat)} {w : World} (h : Olds B v ls w) : Rds w v ls := by
  obtain ⟨b, xs, rfl, hl, hb, hf, hr⟩ := h
  refine ⟨hf, .inr ⟨_, _, rfl, Nat.le_refl _, fun j l hj => ?_⟩⟩
  have hjl : j < ls.length := (List.getElem?_eq_some_iff.1 hj).1
  have e : xs[j]? = some (xs[j]'(by omega)) := List.getElem?_eq_getElem (by omega)
  exact ⟨_, by rw [Addr.add_mid, Nat.zero_add]; exact hb.cell j _ e, (hr j _ l e hj).1⟩
theorem Rd.nil_any {w w' : World} {v : Value} (h : Rd w v []) : Rd w' v [] := by
  refine ⟨h.byte, h.fits, ?_⟩
  rcases h.form with q | ⟨ad, cap, e, hc, _⟩
  · exact .inl q
  · exact .inr ⟨ad, cap, e, hc, fun j hj => by simp at hj⟩
def Pred.rds {B : Nat} (ls : List (List Nat)) : Pred B := ⟨fun v w => Olds B v ls w, false,
  fun ⟨b, xs, e, hl, hb, hf, hr⟩ hw => ⟨b, xs, e, hl, hb.below hw hb.lt, hf, fun j x l h1 h2 => ⟨(hr j x l h1 h2).1.below hw, (hr j x l h1 h2).2⟩⟩,
  fun {v w w' g} ⟨b, xs, e, hl, hb, hf, hr⟩ hg hB hne => ⟨b, xs, e, hl, hb.grown hg (by subst e; exact hne.resolve_left (by simp)), hf, fun j x l h1 h2 => by
    obtain ⟨r1, r2⟩ := hr j x l h1 h2
    refine ⟨?_, r2⟩
    match l, r1, r2 with
    | [], r1, _ => exact r1.nil_any
    | y :: l, r1, r2 => exact r1.grown hg (.inr (r2 (by simp) g hB))⟩⟩
theorem doesG_one {B : Nat} {ops : List Oper} {Q : Exit → Act → World → Prop} {T : List (Pred B)} {U : Nat → Nat} {i : Nat} {o : Oper} {a : Act} {w : World} (hw : Region.wanted o (yielded ops.toArray a.tmps) = true) (k : Nat) (ho : o.op = .buildSlice 23 1 #[(0, .tmp k)])
    {ao : Option Addr} {n c : Nat} (hx : a.eval (.tmp k) = .slice ao n c) (l : List Nat) (hr : Rd w (.slice ao n c) l) (hold : 0 < l.length → ∀ g, B ≤ g → (Value.slice ao n c).ownBlock ≠ some g) (hf : ∀ v' w', Olds B v' [l] w' → (T.getD i (.val undef)).holds v' w') : DoesG Tryd.prog ops Q T U i o a w := by
  refine doesG_new hw fun K hK => ?_
  have f : a.tmps[k]?.getD undef = .slice ao n c := by rw [← Array.getD_eq_getD_getElem?]; exact hx
  unfold Oper.wp execOp
  rw [ho]
  go_simp
  refine hK _ _ (hf _ _ ⟨w.heap.size, [.slice ao n c], rfl, rfl, Blk.new w 22 [.slice ao n c] _ rfl, by simp, fun j x l' h1 h2 => ?_⟩) ((Below.refl _ _).alloc (Nat.le_refl _) _) (fun g hg => ?_)
  · cases j with
    | zero => simp at h1 h2; subst h1; subst h2; exact ⟨hr.alloc _, hold⟩
    | succ j => simp at h2
  · have : w.heap.size = g := Option.some.inj hg
    simp; omega
theorem doesG_two {B : Nat} {ops : List Oper} {Q : Exit → Act → World → Prop} {T : List (Pred B)} {U : Nat → Nat} {i : Nat} {o : Oper} {a : Act} {w : World} (hw : Region.wanted o (yielded ops.toArray a.tmps) = true) (k m : Nat) (ho : o.op = .buildSlice 23 2 #[(0, .tmp k), (1, .tmp m)])
    {ao bo : Option Addr} {n c n' c' : Nat} (hx : a.eval (.tmp k) = .slice ao n c) (hy : a.eval (.tmp m) = .slice bo n' c') (l p : List Nat) (hr : Rd w (.slice ao n c) l) (hs : Rd w (.slice bo n' c') p) (hold : 0 < l.length → ∀ g, B ≤ g → (Value.slice ao n c).ownBlock ≠ some g) (hold' : 0 < p.length → ∀ g, B ≤ g → (Value.slice bo n' c').ownBlock ≠ some g)
    (hf : ∀ v' w', Olds B v' [l, p] w' → (T.getD i (.val undef)).holds v' w') : DoesG Tryd.prog ops Q T U i o a w := by
  refine doesG_new hw fun K hK => ?_
  have f : a.tmps[k]?.getD undef = .slice ao n c := by rw [← Array.getD_eq_getD_getElem?]; exact hx
  have f' : a.tmps[m]?.getD undef = .slice bo n' c' := by rw [← Array.getD_eq_getD_getElem?]; exact hy
  unfold Oper.wp execOp
  rw [ho]
  go_simp
  refine hK _ _ (hf _ _ ⟨w.heap.size, [.slice ao n c, .slice bo n' c'], rfl, rfl, Blk.new w 22 [.slice ao n c, .slice bo n' c'] _ rfl, by simp, fun j x l' h1 h2 => ?_⟩) ((Below.refl _ _).alloc (Nat.le_refl _) _) (fun g hg => ?_)
  · match j, h1, h2 with
    | 0, h1, h2 => simp at h1 h2; subst h1; subst h2; exact ⟨hr.alloc _, hold⟩
    | 1, h1, h2 => simp at h1 h2; subst h1; subst h2; exact ⟨hs.alloc _, hold'⟩
    | j + 2, h1, h2 => simp at h2
  · have : w.heap.size = g := Option.some.inj hg
    simp; omega
end Go.Proofs.YtllhljhbnopafaaDoor
