/- An array of bytes by value among a law's arguments: opened and shut. Own work. -/
import Derived.Test.YtllhljhbnopafaaDoorRow8
import Derived.WalkKit
import Derived.ProofKit
import Derived.OpenShut
import Derived.DataShut
import Derived.DataReads
import Derived.ChangeSame
import Derived.Below
namespace Go.Proofs.YtllhljhbnopafaaDoor
open Go.ChangeShapes Go.WideShapes Go.ChangeAt Go.RowKit
/-- A law's last step: the results read, the arguments read as before, and below the old heap's size the world is as it was. -/
theorem post_law {H : Type} {enc : TypeId × Value → H} {P : Program} {f : Func} {s : ChangeSpec} {apart fresh handsOn : Bool} {W W' : World} {args : Array Value} {v : Value} {ds gs : List (DataW H)} {before : List MemPlace}
    (hW : DataW.Whole enc P f.params.toList s.vars apart W args.toList ds gs before)
    (hres : DataW.TrodAll enc P W' (match fresh with | true => W.heap.size | false => 0) (fun _ => false) handsOn f.resultTypes.toList (v.resultList f.resultTypes.size) (s.fn H (ds ++ gs)).results [])
    (hargs : DataW.TrodAll enc P W' 0 (fun b => decide (b < W.heap.size)) true f.params.toList args.toList (s.fn H (ds ++ gs)).args before)
    (hvars : DataW.TrodVars enc P W' (fun b => decide (b < W.heap.size)) s.vars (s.fn H (ds ++ gs)).vars [])
    (hb : Below W.heap.size W W') : s.post enc P f apart fresh handsOn false W args v W' :=
  ⟨ds, gs, before, [], before, [], hW, hres, hargs, hvars, World.keptBut_mono (fun _ hp => ⟨hp, Or.inr (Or.inl hp)⟩) (hb.frame (· ∈ before)), (fun h => by cases h)⟩
def lit8 {H : Type} (l : List Nat) : DataW H := .agg (l.map fun k : Nat => .lit (.int .u8 (k : Int)))
theorem u8_of {a : Int} (h : (Lit.int .u8 a).wf = true) : ∃ n : Nat, n < 256 ∧ a = (n : Int) := by
  have k : 0 ≤ a ∧ a ≤ 255 := by simpa [Lit.wf, IntKind.min, IntKind.max, IntKind.signed, IntKind.bits] using h
  exact ⟨a.toNat, by omega, by omega⟩
theorem open_row {H : Type} {enc : TypeId × Value → H} {P : Program} {W : World} {base : Nat} {sp : Nat → Bool} {held : Bool} {t e n : Nat} (hu : P.underlying t = some (.array n e)) (he : P.underlying e = some (.int .u8)) (hc : P.cellsOf e = 1)
    {v : Value} {d : DataW H} {p : List MemPlace} {b0 : Nat} {r : Reach} (hval : Value.okWide P W r b0 t v) (hcn : P.cellsOf t = n) (h : DataW.Trod enc P W base sp held t v d p) :
    ∃ l : List Nat, Bytes n l ∧ v = .agg (row8 l).toArray ∧ d = lit8 l ∧ p = [] := by
  obtain ⟨cs, rfl, hsz, _⟩ : ∃ cs, v = .agg cs ∧ cs.size = P.cellsOf t ∧ Row.okWide P W r b0 t cs := by
    simpa [Value.okWide, hu] using hval
  obtain ⟨fuel, hf⟩ := h
  obtain ⟨xs, m, _, hx, hl, hn, hi⟩ := DataW.trod_array hu hf
  obtain ⟨cs⟩ := cs
  simp only [Value.cells] at hl hi
  have key : ∀ i, i < n → ∃ k : Nat, k < 256 ∧ cs[i]? = some (.int .u8 (k : Int)) ∧ xs[i]? = some (.lit (.int .u8 (k : Int)), []) := fun i hin => by
    have h1 := hi i hin
    have e1 : xs[i]? = some (xs[i]'(by omega)) := List.getElem?_eq_getElem (by omega)
    rw [e1, hc, Nat.mul_one] at h1
    obtain ⟨a, h2, h3, h4⟩ := DataW.trod_int he h1
    obtain ⟨k, hk, rfl⟩ := u8_of h4
    refine ⟨k, hk, ?_, by rw [e1, h3]⟩
    have h5 : ((cs.drop i).take 1)[0]? = some (.int .u8 (k : Int)) := by
      rw [h2]; rfl
    simpa using h5
  have hcl : cs.length = n := by rw [← hcn]; exact hsz
  let l : List Nat := (List.range n).map fun i => (intOf (cs[i]?.getD undef)).toNat
  have hll : l.length = n := by simp [l]
  have hle : ∀ i, i < n → ∃ k : Nat, k < 256 ∧ l[i]? = some k ∧ cs[i]? = some (.int .u8 (k : Int)) ∧ xs[i]? = some (.lit (.int .u8 (k : Int)), []) := fun i hin => by
    obtain ⟨k, h1, h2, h3⟩ := key i hin
    exact ⟨k, h1, by simp [l, hin, h2, intOf], h2, h3⟩
  refine ⟨l, ⟨hll, fun k => ?_⟩, ?_, ?_, ?_⟩
  · unfold gb; rw [List.getD_eq_getElem?_getD]
    by_cases hk : k < n
    · obtain ⟨q, h1, h2, _⟩ := hle k hk; rw [h2]; exact h1
    · rw [List.getElem?_eq_none (by omega)]; show 0 < 256; omega
  · congr 1; congr 1
    apply List.ext_getElem?
    intro i
    unfold row8; rw [List.getElem?_map]
    by_cases hk : i < n
    · obtain ⟨q, _, h2, h3, _⟩ := hle i hk; rw [h2, h3]; rfl
    · rw [List.getElem?_eq_none (by omega), List.getElem?_eq_none (by omega)]; rfl
  · have e2 := congrArg Prod.fst hx
    simp only at e2
    rw [e2]; unfold lit8; congr 1
    apply List.ext_getElem?
    intro i
    rw [List.getElem?_map, List.getElem?_map]
    by_cases hk : i < n
    · obtain ⟨q, _, h2, _, h4⟩ := hle i hk; rw [h2, h4]; rfl
    · rw [List.getElem?_eq_none (by omega), List.getElem?_eq_none (by omega)]; rfl
  · have e2 := congrArg Prod.snd hx
    simp only at e2
    rw [e2]
    rw [List.flatMap_eq_nil_iff]
    intro x hxm
    obtain ⟨i, hi2, e3⟩ := List.getElem_of_mem hxm
    obtain ⟨q, _, _, _, h4⟩ := hle i (by omega)
    rw [List.getElem?_eq_getElem hi2, e3] at h4
    cases h4; rfl
theorem shut_row {H : Type} {enc : TypeId × Value → H} {P : Program} {W : World} {base : Nat} {sp : Nat → Bool} {held : Bool} {t e n : Nat} (hu : P.underlying t = some (.array n e)) (he : P.underlying e = some (.int .u8)) (hc : P.cellsOf e = 1) (hcn : P.cellsOf t = n)
    {l : List Nat} (hl : Bytes n l) : DataW.Trod enc P W base sp held t (.agg (row8 l).toArray) (lit8 l) [] := by
  refine ⟨2, ?_⟩
  have hlen : (row8 l).length = n := by rw [row8_len]; exact hl.1
  have hm : ((List.range n).mapM fun i => DataW.trod enc P W base sp held 1 e (((row8 l).drop (i * P.cellsOf e)).take (P.cellsOf e))) = some ((List.range n).map fun i => (.lit (.int .u8 ((gb l i : Nat) : Int)), [])) := by
    refine mapM_some_of_get _ _ (by simp) fun i x hx => ?_
    have hin : i < n := by
      rcases Nat.lt_or_ge i n with h | h
      · exact h
      · rw [List.getElem?_eq_none (by simpa using h)] at hx; cases hx
    have hxe : x = i := by simp [hin] at hx; omega
    subst hxe
    rw [hc, Nat.mul_one, List.getElem?_map, List.getElem?_range hin]
    have h1 : ((row8 l).drop x).take 1 = [.int .u8 ((gb l x : Nat) : Int)] := by
      rw [List.drop_eq_getElem_cons (by omega), List.take_succ_cons, List.take_zero]
      have := row8_val l x (by rw [← row8_len]; omega)
      rw [List.getElem?_eq_getElem (by omega)] at this
      simp at this; rw [this]
    have hw : (Lit.int .u8 ((gb l x : Nat) : Int)).wf = true := by
      have := hl.2 x
      simp [Lit.wf, IntKind.min, IntKind.max, IntKind.signed, IntKind.bits]; omega
    rw [h1]
    simp [DataW.trod, he, hw]
  have hd : ((List.range n).map fun i => (DataW.lit (H := H) (.int .u8 ((gb l i : Nat) : Int)))) = l.map fun k : Nat => .lit (.int .u8 (k : Int)) := by
    apply List.ext_getElem?
    intro i
    rw [List.getElem?_map, List.getElem?_map]
    by_cases hk : i < n
    · have e : l[i]? = some (gb l i) := by
        unfold gb; rw [List.getD_eq_getElem?_getD, List.getElem?_eq_getElem (by rw [hl.1]; exact hk)]; rfl
      rw [List.getElem?_range hk, e]; rfl
    · rw [List.getElem?_eq_none (by simpa using hk), List.getElem?_eq_none (by rw [hl.1]; omega)]; rfl
  unfold DataW.trod
  simp only [Value.cells, hu]
  rw [if_pos (by simp [hlen, hcn])]
  rw [hm]
  simp only [Option.map_some, List.map_map, Function.comp_def]
  rw [hd]
  unfold lit8
  simp
end Go.Proofs.YtllhljhbnopafaaDoor
