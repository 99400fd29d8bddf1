/- That the witness's arguments read as data: part by part, a long array by a law (the run over a thousand cells ran the kernel out of memory). Own work. -/
import Derived.Test.YtmidbmihadhgdaaDoorMem
import Derived.ChangeFn
namespace Go.Proofs.YtmidbmihadhgdaaDoor
open Go.ChangeShapes Go.WideShapes Go.ChangeAt Go.RowKit
theorem trod_row_fuel {H : Type} (f : Nat) {enc : TypeId × Value → H} {P : Program} {W : World} {base : Nat} {sp : Nat → Bool} {held : Bool} {t e n : Nat} (hu : P.underlying t = some (.array n e)) (he : P.underlying e = some (.int .u8)) (hc : P.cellsOf e = 1) (hcn : P.cellsOf t = n)
    {l : List Nat} (hl : Bytes n l) : DataW.trod enc P W base sp held (f + 2) t (row8 l) = some (lit8 l, []) := by
  have hlen : (row8 l).length = n := by rw [row8_len]; exact hl.1
  have hm : ((List.range n).mapM fun i => DataW.trod enc P W base sp held (f + 1) e (((row8 l).drop (i * P.cellsOf e)).take (P.cellsOf e))) = some ((List.range n).map fun i => (.lit (.int .u8 ((gb l i : Nat) : Int)), [])) := by
    refine mapM_some_of_get _ _ (by simp) fun i x hx => ?_
    have hin : i < n := by
      rcases Nat.lt_or_ge i n with h | h
      · exact h
      · rw [List.getElem?_eq_none (by simpa using h)] at hx; cases hx
    have hxe : x = i := by simp [hin] at hx; omega
    subst hxe
    rw [hc, Nat.mul_one, List.getElem?_map, List.getElem?_range hin]
    have h1 : ((row8 l).drop x).take 1 = [.int .u8 ((gb l x : Nat) : Int)] := by
      rw [List.drop_eq_getElem_cons (by omega), List.take_succ_cons, List.take_zero]
      have := row8_val l x (by rw [← row8_len]; omega)
      rw [List.getElem?_eq_getElem (by omega)] at this
      simp at this; rw [this]
    have hw : (Lit.int .u8 ((gb l x : Nat) : Int)).wf = true := by
      have := hl.2 x
      simp [Lit.wf, IntKind.min, IntKind.max, IntKind.signed, IntKind.bits]; omega
    rw [h1]
    simp [DataW.trod, he, hw]
  have hd : ((List.range n).map fun i => (DataW.lit (H := H) (.int .u8 ((gb l i : Nat) : Int)))) = l.map fun k : Nat => .lit (.int .u8 (k : Int)) := by
    apply List.ext_getElem?
    intro i
    rw [List.getElem?_map, List.getElem?_map]
    by_cases hk : i < n
    · have e : l[i]? = some (gb l i) := by
        unfold gb; rw [List.getD_eq_getElem?_getD, List.getElem?_eq_getElem (by rw [hl.1]; exact hk)]; rfl
      rw [List.getElem?_range hk, e]; rfl
    · rw [List.getElem?_eq_none (by simpa using hk), List.getElem?_eq_none (by rw [hl.1]; omega)]; rfl
  unfold DataW.trod
  simp only [hu]
  rw [if_pos (by simp [hlen, hcn])]
  rw [hm]
  simp only [Option.map_some, List.map_map, Function.comp_def]
  rw [hd]
  unfold lit8
  simp
theorem reads_cons {H : Type} {enc : TypeId × Value → H} {P : Program} {W : World} {base : Nat} {sp : Nat → Bool} {held : Bool} {fuel t : Nat} {v : Value} {ts : List TypeId} {vs : List Value} {d : DataW H} {ds : List (DataW H)}
    (h : DataW.trod enc P W base sp held fuel t v.cells.toList = some (d, [])) (k : DataW.trodAll enc P W base sp held fuel ts vs = some (ds, [])) : DataW.trodAll enc P W base sp held fuel (t :: ts) (v :: vs) = some (d :: ds, []) := by
  rw [DataW.trodAll, h, k]; rfl
theorem reads_row {H : Type} {enc : TypeId × Value → H} {P : Program} {W : World} {base : Nat} {sp : Nat → Bool} {held : Bool} {t e n : Nat} {l : List Nat} {ts : List TypeId} {vs : List Value} {ds : List (DataW H)} (hu : P.underlying t = some (.array n e)) (he : P.underlying e = some (.int .u8)) (hc : P.cellsOf e = 1) (hcn : P.cellsOf t = n) (hl : Bytes n l)
    (k : DataW.trodAll enc P W base sp held 8 ts vs = some (ds, [])) : DataW.trodAll enc P W base sp held 8 (t :: ts) (.agg (row8 l).toArray :: vs) = some (lit8 l :: ds, []) :=
  reads_cons (trod_row_fuel 6 hu he hc hcn hl) k
theorem reads_whole {H : Type} {enc : TypeId × Value → H} {P : Program} {W : World} {fuel : Nat} {ts : List TypeId} {vs : List Value} {ds : List (DataW H)} (h : DataW.trodAll enc P W 0 (fun _ => true) true fuel ts vs = some (ds, [])) : DataW.whole enc P W ts [] false vs fuel = some (ds, [], []) := by
  unfold DataW.whole
  rw [h]
  rfl
end Go.Proofs.YtmidbmihadhgdaaDoor
