/- Texts of one subject in one file: RowsT, RowsZ. Own work. -/
import Derived.Test.YtkagapgganoomaaFillX
import Derived.Test.YtkagapgganoomaaReg
import Derived.Great.BuildSlice
import Derived.Test.YtkagapgganoomaaZed
/- Slices of structs, or of whatever has k cells: read, made, appended to. Own work. -/
namespace Go.Proofs.Ytkagapgganoomaa
open Go.ChangeShapes Go.WideShapes Go.ChangeAt Go.RowKit
/-- The slice v reads as n things of k cells: cs, one behind the other. -/
structure RdT (k : Nat) (w : World) (v : Value) (n : Nat) (cs : List Value) : Prop where
  len : cs.length = n * k
  form : (v = .slice none 0 0 ∧ n = 0) ∨ ∃ ad cap, v = .slice (some ad) n cap ∧ n ≤ cap ∧ ∀ j u, cs[j]? = some u → w.cell? (ad.add j) = some u
theorem RdT.shape {k n : Nat} {w : World} {v : Value} {cs : List Value} (h : RdT k w v n cs) : ∃ ao cap, v = .slice ao n cap ∧ n ≤ cap := by
  rcases h.form with ⟨e, q⟩ | ⟨ad, cap, e, hc, _⟩
  · subst q; exact ⟨none, 0, e, Nat.le_refl _⟩
  · exact ⟨some ad, cap, e, hc⟩
theorem RdT.keep {k n : Nat} {w w' : World} {v : Value} {cs : List Value} (h : RdT k w v n cs) (hk : ∀ g, v.ownBlock = some g → g < w.heap.size → w'.heap[g]? = w.heap[g]?) : RdT k w' v n cs := by
  refine ⟨h.len, ?_⟩
  rcases h.form with q | ⟨ad, cap, e, hc, hs⟩
  · exact .inl q
  · refine .inr ⟨ad, cap, e, hc, fun j u hu => ?_⟩
    have h1 := hs j u hu
    have hlt := World.block_lt_of_cell? w _ h1
    rw [add_block] at hlt
    rw [World.cell?_of_block (w := w) (by rw [add_block]; exact hk ad.block (by rw [e]; rfl) hlt)]; exact h1
theorem RdT.below {k n : Nat} {w w' : World} {v : Value} {cs : List Value} (h : RdT k w v n cs) (hb : Below w.heap.size w w') : RdT k w' v n cs := h.keep fun g _ hg => hb.block g hg
theorem RdT.grown {k n : Nat} {w w' : World} {v : Value} {cs : List Value} (h : RdT k w v n cs) {row : Option Nat} (hb : w.grownBy w' row) (hne : v.ownBlock = none ∨ v.ownBlock ≠ row) : RdT k w' v n cs := h.keep fun g hg hlt => hb.block g hlt (by
  rcases hne with q | q
  · rw [q] at hg; cases hg
  · rw [← hg]; exact q)
theorem RdT.none_ (k : Nat) (w : World) : RdT k w (.slice none 0 0) 0 [] := ⟨by simp, .inl ⟨rfl, rfl⟩⟩
/-- The cells of the j-th thing, at a plain address. -/
theorem RdT.at_ {k n : Nat} {w : World} {ao : Option Addr} {cap : Nat} {cs : List Value} (h : RdT k w (.slice ao n cap) n cs) (hk : 0 < k) (j : Nat) (hj : j < n) : ∃ b off, ao = some ⟨b, off, none⟩ ∧ ∀ i u, i < k → cs[j * k + i]? = some u → w.cell? ⟨b, off + (j * k + i), none⟩ = some u := by
  have hpos : 0 < n * k := Nat.mul_pos (by omega) hk
  rcases h.form with ⟨_, q⟩ | ⟨ad, cap', e, _, hs⟩
  · omega
  · injection e with e1 _ _
    obtain ⟨u0, hu0⟩ : ∃ u, cs[0]? = some u := ⟨cs[0]'(by rw [h.len]; exact hpos), List.getElem?_eq_getElem _⟩
    have h0 := hs 0 u0 hu0
    obtain ⟨b, off, spot⟩ := ad
    have hspot : spot = none := by simpa [Addr.add] using World.cell?_spot h0
    subst hspot
    exact ⟨b, off, e1, fun i u _ hu => by rw [← Addr.add_lit]; exact hs _ u hu⟩
/-- The call's own slice. -/
theorem owned_rd {w : World} {B k n : Nat} {e : TypeId} {v : Value} {cs : List Value} (h : w.ownsRow B e k v n cs) : RdT k w v n cs := by
  refine ⟨h.1, ?_⟩
  rcases h.2 with q | ⟨g, cap, cur, e, hB, hh, hc, _, hs, ht⟩
  · exact .inl q
  · refine .inr ⟨⟨g, 0, none⟩, cap, e, hc, fun j u hu => ?_⟩
    have e2 : (⟨g, 0, none⟩ : Addr).add j = ⟨g, j, none⟩ := by rw [Addr.add_lit, Nat.zero_add]
    rw [e2, cell_of_row w g j cur _ _ hh]
    rw [← ht, List.getElem?_take] at hu
    split at hu
    · simpa using hu
    · cases hu
theorem owned_none (w : World) (B k : Nat) (e : TypeId) : w.ownsRow B e k (.slice none 0 0) 0 [] := ⟨by simp, .inl ⟨rfl, rfl⟩⟩
theorem owned_below {w w' : World} {B k n : Nat} {e : TypeId} {v : Value} {cs : List Value} (h : w.ownsRow B e k v n cs) (hb : Below w.heap.size w w') : w'.ownsRow B e k v n cs := World.ownsRow.kept h (grown_of_below hb none) (own_none v)
/-- append of whatever things onto a slice of the call's own. -/
theorem run_appTw {P : Program} (w : World) (st et ty : TypeId) (k bytes : Nat) (Z : List Value) (hst : P.underlying st = some (.slice et)) (hi : (P.info? et).map (fun i => (i.zero, i.size, i.bytes)) = some (some (.agg Z.toArray), k, bytes)) (hZ : Z.length = k) (hk : 0 < k)
    (B : Nat) (v y : Value) (n m : Nat) (cs ds : List Value) (ho : w.ownsRow B et k v n cs) (hr : RdT k w y m ds) (h1 : ∀ u ∈ ds, u.oneCell' = true) (hn : n + m ≤ 140737488355328) (hn2 : (n + m) * bytes ≤ 140737488355328) (hB : B ≤ w.heap.size) :
    ∃ v' w', (Builtin.append_ #[st, st] ty #[v, y]).run P w = .ok v' w' ∧ w'.ownsRow B et k v' (n + m) (cs ++ ds) ∧ w.grownBy w' v.ownBlock ∧ (v'.ownBlock = v.ownBlock ∨ v'.ownBlock = some w.heap.size) := by
  obtain ⟨i0, hi0, hz0, hz1, hz2⟩ := info_parts hi
  rcases hr.form with ⟨rfl, rfl⟩ | ⟨ad, cap, rfl, _, hs⟩
  · obtain rfl : ds = [] := by have := hr.len; rw [Nat.zero_mul] at this; exact List.length_eq_zero_iff.1 this
    exact ⟨v, w, run_append_owned_none (P := P) (w := w) B st ty et i0 k hst hi0 v _ _ ho, by rw [List.append_nil]; exact ho, World.grownBy.refl w _, .inl rfl⟩
  · obtain ⟨v', w', hrun, h2, h3, _, h5⟩ := run_append_own_at (P := P) w B st ty et i0 _ k bytes hst hi0 hz0 hz1 hz2 (by show Z.toArray.size = k; rw [List.size_toArray, hZ]) hk v n cs ho ad m cap ds hr.len hs h1 (by unfold maxLen; omega) (by omega) hB
    exact ⟨v', w', hrun, h2, h3, h5⟩
theorem run_appT {P : Program} (w : World) (st et ty : TypeId) (k bytes : Nat) (Z : List Value) (hst : P.underlying st = some (.slice et)) (hi : (P.info? et).map (fun i => (i.zero, i.size, i.bytes)) = some (some (.agg Z.toArray), k, bytes)) (hZ : Z.length = k) (hk : 0 < k) (hby : bytes ≤ 4096)
    (B : Nat) (v y : Value) (n m : Nat) (cs ds : List Value) (ho : w.ownsRow B et k v n cs) (hr : RdT k w y m ds) (h1 : ∀ u ∈ ds, u.oneCell' = true) (hn : n + m ≤ 34359738368) (hB : B ≤ w.heap.size) :
    ∃ v' w', (Builtin.append_ #[st, st] ty #[v, y]).run P w = .ok v' w' ∧ w'.ownsRow B et k v' (n + m) (cs ++ ds) ∧ w.grownBy w' v.ownBlock ∧ (v'.ownBlock = v.ownBlock ∨ v'.ownBlock = some w.heap.size) := by
  obtain ⟨i0, hi0, hz0, hz1, hz2⟩ := info_parts hi
  rcases hr.form with ⟨rfl, rfl⟩ | ⟨ad, cap, rfl, _, hs⟩
  · obtain rfl : ds = [] := by have := hr.len; rw [Nat.zero_mul] at this; exact List.length_eq_zero_iff.1 this
    exact ⟨v, w, run_append_owned_none (P := P) (w := w) B st ty et i0 k hst hi0 v _ _ ho, by rw [List.append_nil]; exact ho, World.grownBy.refl w _, .inl rfl⟩
  · obtain ⟨v', w', hrun, h2, h3, _, h5⟩ := run_append_own_at (P := P) w B st ty et i0 _ k bytes hst hi0 hz0 hz1 hz2 (by show Z.toArray.size = k; rw [List.size_toArray, hZ]) hk v n cs ho ad m cap ds hr.len hs h1 (by unfold maxLen; omega) (by have : (n + m) * bytes ≤ 34359738368 * 4096 := Nat.mul_le_mul hn hby; omega) hB
    exact ⟨v', w', hrun, h2, h3, h5⟩
/-- What is known of a slice of things. -/
def Pred.rdT {B : Nat} (k n : Nat) (cs : List Value) : Pred B := ⟨fun v w => RdT k w v n cs, false, fun h hb => h.below hb, fun h hg _ hne => h.grown hg (held_own (hne.resolve_left (by simp)))⟩
def Pred.ownT {B : Nat} (et : TypeId) (k n : Nat) (cs : List Value) : Pred B := ⟨fun v w => w.ownsRow B et k v n cs, false, fun h hb => owned_below h hb, fun h hg _ hne => World.ownsRow.kept h hg (held_own (hne.resolve_left (by simp)))⟩
theorem owned_held {w : World} {B k n : Nat} {e : TypeId} {v : Value} {cs : List Value} (h : w.ownsRow B e k v n cs) {g : Nat} (hg : held v = some g) : v.ownBlock = some g := by
  obtain ⟨ao, cap, rfl, _⟩ := (owned_rd h).shape
  cases ao with
  | none => cases hg
  | some a => exact hg
section
variable {P : Program} {B : Nat} {ops : List Oper} {Q : Exit → Act → World → Prop} {T : List (Pred B)} {U : Nat → Nat} {i : Nat} {o : Oper} {a : Act} {w : World}
/-- append onto a slice of the region's own, which is used up. -/
theorem doesG_appT (hw : Region.wanted o (yielded ops.toArray a.tmps) = true) (s x : Operand) (st et : TypeId) (k bytes : Nat) (Z : List Value) (ho : o.op = .call { callee := .builtin .append, args := #[s, x], argTypes := #[st, st] })
    (hst : P.underlying st = some (.slice et)) (hi : (P.info? et).map (fun i => (i.zero, i.size, i.bytes)) = some (some (.agg Z.toArray), k, bytes)) (hZ : Z.length = k) (hk0 : 0 < k) (hby : bytes ≤ 4096)
    (v y : Value) (n m : Nat) (cs ds : List Value) (d : Nat) (hd : v = .slice none 0 0 ∨ d ∈ depsOf o ∧ U d = i ∧ (T.getD d (.val undef)).firm = false ∧ valOf ops a d = v) (hs : a.eval s = v) (hx : a.eval x = y) (hv : w.ownsRow B et k v n cs) (hy : RdT k w y m ds) (h1 : ∀ u ∈ ds, u.oneCell' = true) (hl : n + m ≤ 34359738368) (hB : B ≤ w.heap.size)
    (hf : ∀ v' w', w'.ownsRow B et k v' (n + m) (cs ++ ds) → (T.getD i (.val undef)).holds v' w') : DoesG P ops Q T U i o a w := by
  refine .inl ⟨hw, fun K hK => ?_⟩
  obtain ⟨v', w', hrun, ho', hg, hk⟩ := run_appT w st et o.type k bytes Z hst hi hZ hk0 hby B v y n m cs ds hv hy h1 hl hB
  unfold Oper.wp
  simp only [execOp, ho, resolve, invoke, builtin, Sem.run_bind, Sem.run_pure, Result.andThen_ok, List.map_toArray, List.map_cons, List.map_nil, hs, hx, hrun]
  refine hK v' w' (hf v' w' ho') ?_ (fun _ g hgv => ?_)
  · cases e : v.ownBlock with
    | none => rw [e] at hg; exact .inl (below_of_grown hg)
    | some g =>
      rw [e] at hg
      rcases hd with q | ⟨hd, hu, hn, hvd⟩
      · rw [q] at e; cases e
      · exact .inr ⟨d, g, hd, hu, hn, by rw [hvd]; exact own_held e, (World.ownsRow.lt hv g e).1, hg⟩
  · have e := owned_held ho' hgv
    refine ⟨(World.ownsRow.lt ho' g e).2, ?_⟩
    rcases hk with q | q
    · rw [e] at q
      rcases hd with q2 | ⟨hd, hu, hn, hvd⟩
      · rw [q2] at q; cases q
      · exact .inr ⟨d, hd, hu, hn, by rw [hvd]; exact own_held q.symm⟩
    · rw [e] at q
      have : g = w.heap.size := Option.some.inj q
      exact .inl (by omega)
theorem run_oneT (w : World) (st et : TypeId) (k bytes : Nat) (Z L : List Value) (hst : P.underlying st = some (.slice et)) (hi : (P.info? et).map (fun i => (i.zero, i.size, i.bytes)) = some (some (.agg Z.toArray), k, bytes)) (hk0 : 0 < k) (hk1 : k ≤ 4096) (hL : L.length = k) :
    (Instr.buildSlice st 1 #[(0, .agg L.toArray)]).run P w = .ok (.slice (some ⟨w.heap.size, 0, none⟩) 1 1) (w.alloc (.cells L.toArray et)) := by
  obtain ⟨i0, hi0, hz0, hz1, _⟩ := info_parts hi
  refine run_buildSlice w st et 1 _ _ i0 _ hst hi0 hz0 (by rw [hz1]; omega) (by rw [hz1]; omega) ?_
  rw [hz1]
  obtain ⟨Y, hY⟩ : ∃ Y, Y = (Array.range (1 * k)).map ((Value.agg Z.toArray).cells[· % (Value.agg Z.toArray).cells.size]!) := ⟨_, rfl⟩
  rw [← hY, show Y = Y.toList.toArray from (Array.toArray_toList).symm]
  exact fill_one _ k (by simp) Y.toList (by rw [hY]; simp) L hL
/-- A slice of one thing is made. -/
theorem doesG_oneT (hw : Region.wanted o (yielded ops.toArray a.tmps) = true) (x : Operand) (st et : TypeId) (k bytes : Nat) (Z L : List Value) (ho : o.op = .buildSlice st 1 #[(0, x)]) (hst : P.underlying st = some (.slice et)) (hi : (P.info? et).map (fun i => (i.zero, i.size, i.bytes)) = some (some (.agg Z.toArray), k, bytes)) (hk0 : 0 < k) (hk1 : k ≤ 4096) (hL : L.length = k)
    (hx : a.eval x = .agg L.toArray) (hf : ∀ v' w', RdT k w' v' 1 L → (T.getD i (.val undef)).holds v' w') : DoesG P ops Q T U i o a w := by
  refine doesG_new hw fun K hK => ?_
  unfold Oper.wp execOp
  rw [ho]
  simp only [List.map_toArray, List.map_cons, List.map_nil, hx, Sem.run_bind, run_oneT w st et k bytes Z L hst hi hk0 hk1 hL, Result.andThen_ok, Sem.run_pure, Oper.upon_value]
  refine hK _ _ (hf _ _ ⟨by rw [hL]; omega, .inr ⟨⟨w.heap.size, 0, none⟩, 1, rfl, Nat.le_refl _, fun j u hu => ?_⟩⟩) ((Below.refl _ _).alloc (Nat.le_refl _) _) (fun g hg => ?_)
  · have e2 : (⟨w.heap.size, 0, none⟩ : Addr).add j = ⟨w.heap.size, j, none⟩ := by rw [Addr.add_lit, Nat.zero_add]
    rw [e2]; exact (Blk.new w et L _ rfl).cell j u hu
  · have : w.heap.size = g := Option.some.inj hg
    simp; omega
end
end Go.Proofs.Ytkagapgganoomaa
/- Slices of structs made and appended to, among the operations of a region that draws (FactsZ); a closure called there. Cut off DevPN in round 15. Own work. -/
namespace Go.Proofs.Ytkagapgganoomaa
open Go.ChangeShapes Go.WideShapes Go.ChangeAt Go.RowKit
section
variable {ops : List Oper} {Q : Exit → Act → World → Prop} {o : Oper} {a : Act} {w : World} {I : Told → World → Prop} {tbl : List Fz} {r : Told} {i : Nat} {S : List Nat}
/-- A slice of one thing is made. -/
theorem doesZ_one (hi : i ∈ S) (hw : Region.wanted o (yielded ops.toArray a.tmps) = true) (x : Operand) (st et : TypeId) (k bytes : Nat) (Z L : List Value) (ho : o.op = .buildSlice st 1 #[(0, x)]) (hst : Try.prog.underlying st = some (.slice et)) (hn : (Try.prog.info? et).map (fun i => (i.zero, i.size, i.bytes)) = some (some (.agg Z.toArray), k, bytes)) (hk0 : 0 < k) (hk1 : k ≤ 4096) (hL : L.length = k) (hx : a.eval x = .agg L.toArray)
    (h : I (r.set i (.slice (some ⟨w.heap.size, 0, none⟩) 1 1)) (w.alloc (.cells L.toArray et)) ∧ (tbl.getD i .any).holds (r.set i (.slice (some ⟨w.heap.size, 0, none⟩) 1 1)) (.slice (some ⟨w.heap.size, 0, none⟩) 1 1)) :
    DoesK Try.prog ops Q o a w (fun v w' => I (if i ∈ S then r.set i v else r) w' ∧ (tbl.getD i .any).holds (if i ∈ S then r.set i v else r) v) := by
  refine doesZ_turn hi hw fun K hK => ?_
  unfold Oper.wp execOp
  rw [ho]
  simp only [List.map_toArray, List.map_cons, List.map_nil, hx, Sem.run_bind, run_oneT w st et k bytes Z L hst hn hk0 hk1 hL, Result.andThen_ok, Sem.run_pure, Oper.upon_value]
  exact hK _ _ h.1 h.2
/-- append of things onto a slice of one's own. -/
theorem doesZ_appT (hi : i ∈ S) (hw : Region.wanted o (yielded ops.toArray a.tmps) = true) (s x : Operand) (st et : TypeId) (k bytes : Nat) (Z : List Value) (ho : o.op = .call { callee := .builtin .append, args := #[s, x], argTypes := #[st, st] }) (hst : Try.prog.underlying st = some (.slice et)) (hinf : (Try.prog.info? et).map (fun i => (i.zero, i.size, i.bytes)) = some (some (.agg Z.toArray), k, bytes)) (hZ : Z.length = k) (hk0 : 0 < k) (hby : bytes ≤ 4096)
    (B : Nat) (v y : Value) (n m : Nat) (cs ds : List Value) (hs : a.eval s = v) (hx : a.eval x = y) (hv : w.ownsRow B et k v n cs) (hy : RdT k w y m ds) (h1 : ∀ u ∈ ds, u.oneCell' = true) (hl : n + m ≤ 34359738368) (hB : B ≤ w.heap.size)
    (h : ∀ v' w', w'.ownsRow B et k v' (n + m) (cs ++ ds) → w.grownBy w' v.ownBlock → (v'.ownBlock = v.ownBlock ∨ v'.ownBlock = some w.heap.size) → I (r.set i v') w' ∧ (tbl.getD i .any).holds (r.set i v') v') :
    DoesK Try.prog ops Q o a w (fun v w' => I (if i ∈ S then r.set i v else r) w' ∧ (tbl.getD i .any).holds (if i ∈ S then r.set i v else r) v) := by
  refine doesZ_turn hi hw fun K hK => ?_
  obtain ⟨v', w', hrun, ho', hg, hk⟩ := run_appT w st et o.type k bytes Z hst hinf hZ hk0 hby B v y n m cs ds hv hy h1 hl hB
  unfold Oper.wp
  simp only [execOp, ho, resolve, invoke, builtin, Sem.run_bind, Sem.run_pure, Result.andThen_ok, List.map_toArray, List.map_cons, List.map_nil, hs, hx, hrun]
  exact hK _ _ (h v' w' ho' hg hk).1 (h v' w' ho' hg hk).2
end
/-- A closure without parameters is called. -/
theorem ex_call_clo {o : Oper} {a : Act} {w : World} {t : Operand} {g : FuncId} {cs : Array Value} (ho : o.op = .call { callee := .value t, args := #[], argTypes := #[] }) (ht : a.eval t = .func (.func g) #[] cs) (hf : (callFunc g cs).run Try.prog w = .ok (.enter g cs) w) : (execOp a.eval o).run Try.prog w = .ok (.enter g cs) w := by
  obtain ⟨ρ, hρ⟩ : ∃ ρ, ρ = a.eval := ⟨_, rfl⟩
  rw [← hρ] at ht ⊢
  unfold execOp
  rw [ho]
  simp only [resolve, ht]
  go_simp
end Go.Proofs.Ytkagapgganoomaa
