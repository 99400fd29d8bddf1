/- An array of arrays of bytes by value among a law's arguments: opened and shut. Own work. -/
import Derived.Test.YtjemajenfkjelaaDoorMem
namespace Go.Proofs.YtjemajenfkjelaaDoor
open Go.ChangeShapes Go.WideShapes Go.ChangeAt Go.RowKit
theorem trod_row {H : Type} {enc : TypeId × Value → H} {P : Program} {W : World} {base : Nat} {sp : Nat → Bool} {held : Bool} {t e n fuel : Nat} (hu : P.underlying t = some (.array n e)) (he : P.underlying e = some (.int .u8)) (hc : P.cellsOf e = 1)
    {cs : List Value} {x : DataW H × List MemPlace} (hcl : cs.length = n) (hf : DataW.trod enc P W base sp held fuel t cs = some x) : ∃ l : List Nat, Bytes n l ∧ cs = row8 l ∧ x = (lit8 l, []) := by
  obtain ⟨xs, m, _, hx, hl, hn, hi⟩ := DataW.trod_array hu hf
  have key : ∀ i, i < n → ∃ k : Nat, k < 256 ∧ cs[i]? = some (.int .u8 (k : Int)) ∧ xs[i]? = some (.lit (.int .u8 (k : Int)), []) := fun i hin => by
    have h1 := hi i hin
    have e1 : xs[i]? = some (xs[i]'(by omega)) := List.getElem?_eq_getElem (by omega)
    rw [e1, hc, Nat.mul_one] at h1
    obtain ⟨a, h2, h3, h4⟩ := DataW.trod_int he h1
    obtain ⟨k, hk, rfl⟩ := u8_of h4
    refine ⟨k, hk, ?_, by rw [e1, h3]⟩
    have h5 : ((cs.drop i).take 1)[0]? = some (.int .u8 (k : Int)) := by
      rw [h2]; rfl
    simpa using h5
  let l : List Nat := (List.range n).map fun i => (intOf (cs[i]?.getD undef)).toNat
  have hll : l.length = n := by simp [l]
  have hle : ∀ i, i < n → ∃ k : Nat, k < 256 ∧ l[i]? = some k ∧ cs[i]? = some (.int .u8 (k : Int)) ∧ xs[i]? = some (.lit (.int .u8 (k : Int)), []) := fun i hin => by
    obtain ⟨k, h1, h2, h3⟩ := key i hin
    exact ⟨k, h1, by simp [l, hin, h2, intOf], h2, h3⟩
  refine ⟨l, ⟨hll, fun k => ?_⟩, ?_, ?_⟩
  · unfold gb; rw [List.getD_eq_getElem?_getD]
    by_cases hk : k < n
    · obtain ⟨q, h1, h2, _⟩ := hle k hk; rw [h2]; exact h1
    · rw [List.getElem?_eq_none (by omega)]; show 0 < 256; omega
  · apply List.ext_getElem?
    intro i
    unfold row8; rw [List.getElem?_map]
    by_cases hk : i < n
    · obtain ⟨q, _, h2, h3, _⟩ := hle i hk; rw [h2, h3]; rfl
    · rw [List.getElem?_eq_none (by omega), List.getElem?_eq_none (by omega)]; rfl
  · rw [hx]
    have hd : xs.map Prod.fst = l.map fun k : Nat => DataW.lit (H := H) (.int .u8 (k : Int)) := by
      apply List.ext_getElem?
      intro i
      rw [List.getElem?_map, List.getElem?_map]
      by_cases hk : i < n
      · obtain ⟨q, _, h2, _, h4⟩ := hle i hk; rw [h2, h4]; rfl
      · rw [List.getElem?_eq_none (by omega), List.getElem?_eq_none (by omega)]; rfl
    have hp : xs.flatMap Prod.snd = [] := by
      rw [List.flatMap_eq_nil_iff]
      intro x hxm
      obtain ⟨i, hi2, e3⟩ := List.getElem_of_mem hxm
      obtain ⟨q, _, _, _, h4⟩ := hle i (by omega)
      rw [List.getElem?_eq_getElem hi2, e3] at h4
      cases h4; rfl
    unfold lit8
    rw [← hd, ← hp]
/-- The i-th of rows of n. -/
def rowAt (L : List Nat) (n i : Nat) : List Nat := (L.drop (i * n)).take n
def litG {H : Type} (m n : Nat) (L : List Nat) : DataW H := .agg ((List.range m).map fun i => lit8 (rowAt L n i))
theorem rowAt_bytes {L : List Nat} {m n : Nat} (hL : Bytes (m * n) L) (i : Nat) (hi : i < m) : Bytes n (rowAt L n i) := by
  have hm : i * n + n ≤ m * n := by
    have := Nat.mul_le_mul_right n (show i + 1 ≤ m from hi)
    rwa [Nat.succ_mul] at this
  refine ⟨by unfold rowAt; rw [List.length_take, List.length_drop, hL.1]; omega, fun k => ?_⟩
  unfold rowAt gb
  rw [List.getD_eq_getElem?_getD, List.getElem?_take]
  split
  · rw [List.getElem?_drop]
    have := hL.2 (i * n + k)
    unfold gb at this
    rwa [List.getD_eq_getElem?_getD] at this
  · show 0 < 256; omega
theorem row8_rowAt (L : List Nat) (n i : Nat) : row8 (rowAt L n i) = ((row8 L).drop (i * n)).take n := by
  unfold row8 rowAt
  rw [List.map_take, List.map_drop]
theorem open_grid {H : Type} {enc : TypeId × Value → H} {P : Program} {W : World} {base : Nat} {sp : Nat → Bool} {held : Bool} {t e b m n : Nat} (hu : P.underlying t = some (.array m e)) (he : P.underlying e = some (.array n b)) (hb : P.underlying b = some (.int .u8)) (hcb : P.cellsOf b = 1) (hce : P.cellsOf e = n)
    {v : Value} {d : DataW H} {p : List MemPlace} {b0 : Nat} {r : Reach} (hval : Value.okWide P W r b0 t v) (hct : P.cellsOf t = m * n) (h : DataW.Trod enc P W base sp held t v d p) :
    ∃ L : List Nat, Bytes (m * n) L ∧ v = .agg (row8 L).toArray ∧ d = litG m n L ∧ p = [] := by
  obtain ⟨cs, rfl, hsz, _⟩ : ∃ cs, v = .agg cs ∧ cs.size = P.cellsOf t ∧ Row.okWide P W r b0 t cs := by
    simpa [Value.okWide, hu] using hval
  obtain ⟨fuel, hf⟩ := h
  obtain ⟨xs, f2, _, hx, hl, hn, hi⟩ := DataW.trod_array hu hf
  obtain ⟨cs⟩ := cs
  simp only [Value.cells] at hl hi
  have hcl : cs.length = m * n := by rw [← hct]; exact hsz
  have hm : ∀ i, i < m → i * n + n ≤ m * n := fun i hi => by
    have := Nat.mul_le_mul_right n (show i + 1 ≤ m from hi)
    rwa [Nat.succ_mul] at this
  have key : ∀ i, i < m → ∃ l : List Nat, Bytes n l ∧ (cs.drop (i * n)).take n = row8 l ∧ xs[i]? = some (lit8 l, []) := fun i hin => by
    have h1 := hi i hin
    have e1 : xs[i]? = some (xs[i]'(by omega)) := List.getElem?_eq_getElem (by omega)
    rw [e1, hce] at h1
    obtain ⟨l, h2, h3, h4⟩ := trod_row he hb hcb (by rw [List.length_take, List.length_drop, hcl]; have := hm i hin; omega) h1
    exact ⟨l, h2, h3, by rw [e1, h4]⟩
  let L : List Nat := cs.map fun c => (intOf c).toNat
  have hLl : L.length = m * n := by simp [L, hcl]
  have hcell : ∀ j, j < m * n → ∃ k : Nat, k < 256 ∧ cs[j]? = some (.int .u8 (k : Int)) := fun j hj => by
    have hn0 : 0 < n := by
      rcases Nat.eq_zero_or_pos n with q | q
      · subst q; simp at hj
      · exact q
    have hjm : j / n < m := Nat.div_lt_of_lt_mul (by rw [Nat.mul_comm]; exact hj)
    obtain ⟨l, h2, h3, _⟩ := key (j / n) hjm
    have hr : j % n < n := Nat.mod_lt _ hn0
    have e : ((cs.drop (j / n * n)).take n)[j % n]? = cs[j]? := by
      rw [List.getElem?_take, if_pos hr, List.getElem?_drop]
      congr 1
      exact Nat.div_add_mod' j n
    refine ⟨gb l (j % n), h2.2 _, ?_⟩
    rw [← e, h3, row8_val l _ (by rw [h2.1]; exact hr)]
  have hcs : cs = row8 L := by
    apply List.ext_getElem?
    intro j
    unfold row8
    simp only [L, List.getElem?_map]
    by_cases hj : j < m * n
    · obtain ⟨k, _, h3⟩ := hcell j hj
      rw [h3]
      simp [intOf]
    · rw [List.getElem?_eq_none (by omega)]; rfl
  refine ⟨L, ⟨hLl, fun k => ?_⟩, by rw [hcs], ?_, ?_⟩
  · by_cases hk : k < m * n
    · obtain ⟨q, h1, h3⟩ := hcell k hk
      unfold gb
      rw [List.getD_eq_getElem?_getD]
      simp only [L, List.getElem?_map, h3]
      simpa [intOf] using h1
    · unfold gb; rw [List.getD_eq_getElem?_getD, List.getElem?_eq_none (by omega)]; show 0 < 256; omega
  · have e2 := congrArg Prod.fst hx
    simp only at e2
    rw [e2]; unfold litG; congr 1
    apply List.ext_getElem?
    intro i
    rw [List.getElem?_map, List.getElem?_map]
    by_cases hk : i < m
    · obtain ⟨l, h2, h3, h4⟩ := key i hk
      rw [h4, List.getElem?_range hk]
      have : row8 l = row8 (rowAt L n i) := by rw [row8_rowAt, ← hcs, h3]
      have hinj : l = rowAt L n i := by
        refine bytes_ext (n := n) h2.1 (by unfold rowAt; rw [List.length_take, List.length_drop, hLl]; have := hm i hk; omega) fun j hj => ?_
        have e := congrArg (·[j]?) this
        rw [row8_val _ _ (by rw [h2.1]; exact hj), row8_val _ _ (by unfold rowAt; rw [List.length_take, List.length_drop, hLl]; have := hm i hk; omega)] at e
        exact Int.ofNat_inj.1 (by simpa using e)
      rw [hinj]; rfl
    · rw [List.getElem?_eq_none (by omega), List.getElem?_eq_none (by simpa using hk)]; rfl
  · have e2 := congrArg Prod.snd hx
    simp only at e2
    rw [e2]
    rw [List.flatMap_eq_nil_iff]
    intro x hxm
    obtain ⟨i, hi2, e3⟩ := List.getElem_of_mem hxm
    obtain ⟨l, _, _, h4⟩ := key i (by omega)
    rw [List.getElem?_eq_getElem hi2, e3] at h4
    cases h4; rfl
theorem trod_row2 {H : Type} {enc : TypeId × Value → H} {P : Program} {W : World} {base : Nat} {sp : Nat → Bool} {held : Bool} {t e n : Nat} (hu : P.underlying t = some (.array n e)) (he : P.underlying e = some (.int .u8)) (hc : P.cellsOf e = 1) (hcn : P.cellsOf t = n)
    {l : List Nat} (hl : Bytes n l) : DataW.trod enc P W base sp held 2 t (row8 l) = some (lit8 l, []) := by
  have hlen : (row8 l).length = n := by rw [row8_len]; exact hl.1
  have hm : ((List.range n).mapM fun i => DataW.trod enc P W base sp held 1 e (((row8 l).drop (i * P.cellsOf e)).take (P.cellsOf e))) = some ((List.range n).map fun i => (.lit (.int .u8 ((gb l i : Nat) : Int)), [])) := by
    refine mapM_some_of_get _ _ (by simp) fun i x hx => ?_
    have hin : i < n := by
      rcases Nat.lt_or_ge i n with h | h
      · exact h
      · rw [List.getElem?_eq_none (by simpa using h)] at hx; cases hx
    have hxe : x = i := by simp [hin] at hx; omega
    subst hxe
    rw [hc, Nat.mul_one, List.getElem?_map, List.getElem?_range hin]
    have h1 : ((row8 l).drop x).take 1 = [.int .u8 ((gb l x : Nat) : Int)] := by
      rw [List.drop_eq_getElem_cons (by omega), List.take_succ_cons, List.take_zero]
      have := row8_val l x (by rw [← row8_len]; omega)
      rw [List.getElem?_eq_getElem (by omega)] at this
      simp at this; rw [this]
    have hw : (Lit.int .u8 ((gb l x : Nat) : Int)).wf = true := by
      have := hl.2 x
      simp [Lit.wf, IntKind.min, IntKind.max, IntKind.signed, IntKind.bits]; omega
    rw [h1]
    simp [DataW.trod, he, hw]
  have hd : ((List.range n).map fun i => (DataW.lit (H := H) (.int .u8 ((gb l i : Nat) : Int)))) = l.map fun k : Nat => .lit (.int .u8 (k : Int)) := by
    apply List.ext_getElem?
    intro i
    rw [List.getElem?_map, List.getElem?_map]
    by_cases hk : i < n
    · have e : l[i]? = some (gb l i) := by
        unfold gb; rw [List.getD_eq_getElem?_getD, List.getElem?_eq_getElem (by rw [hl.1]; exact hk)]; rfl
      rw [List.getElem?_range hk, e]; rfl
    · rw [List.getElem?_eq_none (by simpa using hk), List.getElem?_eq_none (by rw [hl.1]; omega)]; rfl
  unfold DataW.trod
  simp only [hu]
  rw [if_pos (by simp [hlen, hcn])]
  rw [hm]
  simp only [Option.map_some, List.map_map, Function.comp_def]
  rw [hd]
  unfold lit8
  simp
theorem shut_grid {H : Type} {enc : TypeId × Value → H} {P : Program} {W : World} {base : Nat} {sp : Nat → Bool} {held : Bool} {t e b m n : Nat} (hu : P.underlying t = some (.array m e)) (he : P.underlying e = some (.array n b)) (hb : P.underlying b = some (.int .u8)) (hcb : P.cellsOf b = 1) (hce : P.cellsOf e = n) (hct : P.cellsOf t = m * n)
    {L : List Nat} (hL : Bytes (m * n) L) : DataW.Trod enc P W base sp held t (.agg (row8 L).toArray) (litG m n L) [] := by
  refine ⟨3, ?_⟩
  have hlen : (row8 L).length = m * n := by rw [row8_len]; exact hL.1
  have hm : ((List.range m).mapM fun i => DataW.trod enc P W base sp held 2 e (((row8 L).drop (i * P.cellsOf e)).take (P.cellsOf e))) = some ((List.range m).map fun i => (lit8 (rowAt L n i), [])) := by
    refine mapM_some_of_get _ _ (by simp) fun i x hx => ?_
    have hin : i < m := by
      rcases Nat.lt_or_ge i m with h | h
      · exact h
      · rw [List.getElem?_eq_none (by simpa using h)] at hx; cases hx
    have hxe : x = i := by simp [hin] at hx; omega
    subst hxe
    rw [hce, List.getElem?_map, List.getElem?_range hin, ← row8_rowAt, trod_row2 he hb hcb hce (rowAt_bytes hL x hin)]
    rfl
  unfold DataW.trod
  simp only [Value.cells, hu]
  rw [if_pos (by simp [hlen, hct])]
  rw [hm]
  simp only [Option.map_some, List.map_map, Function.comp_def]
  unfold litG
  simp
end Go.Proofs.YtjemajenfkjelaaDoor
