/- A table of key slots by value among a law's arguments: opened and shut. Own work. -/
import Derived.Test.YtbepchikngoknaaDoorSlN
import Derived.Test.YtbepchikngoknaaDoorMem
namespace Go.Proofs.YtbepchikngoknaaDoor
open Go.ChangeShapes Go.WideShapes Go.ChangeAt Go.RowKit
open SL
theorem row_open {H : Type} {enc : TypeId × Value → H} {P : Program} {W : World} {base fuel : Nat} {sp : Nat → Bool} {held : Bool} {t e n : Nat} (hu : P.underlying t = some (.array n e)) (he : P.underlying e = some (.int .u8)) (hc : P.cellsOf e = 1) (hcn : P.cellsOf t = n)
    {cs : List Value} {x : DataW H × List MemPlace} (hf : DataW.trod enc P W base sp held fuel t cs = some x) : ∃ l : List Nat, Bytes n l ∧ cs = row8 l ∧ x = (lit8 l, []) := by
  obtain ⟨xs, m, _, hx, hl, hn, hi⟩ := DataW.trod_array hu hf
  have key : ∀ i, i < n → ∃ k : Nat, k < 256 ∧ cs[i]? = some (.int .u8 (k : Int)) ∧ xs[i]? = some (.lit (.int .u8 (k : Int)), []) := fun i hin => by
    have h1 := hi i hin
    have e1 : xs[i]? = some (xs[i]'(by omega)) := List.getElem?_eq_getElem (by omega)
    rw [e1, hc, Nat.mul_one] at h1
    obtain ⟨a, h2, h3, h4⟩ := DataW.trod_int he h1
    obtain ⟨k, hk, rfl⟩ := u8_of h4
    refine ⟨k, hk, ?_, by rw [e1, h3]⟩
    have h5 : ((cs.drop i).take 1)[0]? = some (.int .u8 (k : Int)) := by
      rw [h2]; rfl
    simpa using h5
  have hcl : cs.length = n := by rw [← hcn]; exact hl
  let l : List Nat := (List.range n).map fun i => (intOf (cs[i]?.getD undef)).toNat
  have hll : l.length = n := by simp [l]
  have hle : ∀ i, i < n → ∃ k : Nat, k < 256 ∧ l[i]? = some k ∧ cs[i]? = some (.int .u8 (k : Int)) ∧ xs[i]? = some (.lit (.int .u8 (k : Int)), []) := fun i hin => by
    obtain ⟨k, h1, h2, h3⟩ := key i hin
    exact ⟨k, h1, by simp [l, hin, h2, intOf], h2, h3⟩
  refine ⟨l, ⟨hll, fun k => ?_⟩, ?_, ?_⟩
  · unfold gb; rw [List.getD_eq_getElem?_getD]
    by_cases hk : k < n
    · obtain ⟨q, h1, h2, _⟩ := hle k hk; rw [h2]; exact h1
    · rw [List.getElem?_eq_none (by omega)]; show 0 < 256; omega
  · apply List.ext_getElem?
    intro i
    unfold row8; rw [List.getElem?_map]
    by_cases hk : i < n
    · obtain ⟨q, _, h2, h3, _⟩ := hle i hk; rw [h2, h3]; rfl
    · rw [List.getElem?_eq_none (by omega), List.getElem?_eq_none (by omega)]; rfl
  · rw [hx]
    refine Prod.ext ?_ ?_
    · show DataW.agg _ = lit8 l
      unfold lit8; congr 1
      apply List.ext_getElem?
      intro i
      rw [List.getElem?_map, List.getElem?_map]
      by_cases hk : i < n
      · obtain ⟨q, _, h2, _, h4⟩ := hle i hk; rw [h2, h4]; rfl
      · rw [List.getElem?_eq_none (by omega), List.getElem?_eq_none (by omega)]; rfl
    · show List.flatMap _ _ = []
      rw [List.flatMap_eq_nil_iff]
      intro x hxm
      obtain ⟨i, hi2, e3⟩ := List.getElem_of_mem hxm
      obtain ⟨q, _, _, _, h4⟩ := hle i (by omega)
      rw [List.getElem?_eq_getElem hi2, e3] at h4
      cases h4; rfl
theorem row_shut {H : Type} {enc : TypeId × Value → H} {P : Program} {W : World} {base : Nat} {sp : Nat → Bool} {held : Bool} {t e n : Nat} (hu : P.underlying t = some (.array n e)) (he : P.underlying e = some (.int .u8)) (hc : P.cellsOf e = 1) (hcn : P.cellsOf t = n)
    {l : List Nat} (hl : Bytes n l) : DataW.trod enc P W base sp held 2 t (row8 l) = some (lit8 l, []) := by
  have hlen : (row8 l).length = n := by rw [row8_len]; exact hl.1
  have hm : ((List.range n).mapM fun i => DataW.trod enc P W base sp held 1 e (((row8 l).drop (i * P.cellsOf e)).take (P.cellsOf e))) = some ((List.range n).map fun i => (.lit (.int .u8 ((gb l i : Nat) : Int)), [])) := by
    refine mapM_some_of_get _ _ (by simp) fun i x hx => ?_
    have hin : i < n := by
      rcases Nat.lt_or_ge i n with h | h
      · exact h
      · rw [List.getElem?_eq_none (by simpa using h)] at hx; cases hx
    have hxe : x = i := by simp [hin] at hx; omega
    subst hxe
    rw [hc, Nat.mul_one, List.getElem?_map, List.getElem?_range hin]
    have h1 : ((row8 l).drop x).take 1 = [.int .u8 ((gb l x : Nat) : Int)] := by
      rw [List.drop_eq_getElem_cons (by omega), List.take_succ_cons, List.take_zero]
      have := row8_val l x (by rw [← row8_len]; omega)
      rw [List.getElem?_eq_getElem (by omega)] at this
      simp at this; rw [this]
    have hw : (Lit.int .u8 ((gb l x : Nat) : Int)).wf = true := by
      have := hl.2 x
      simp [Lit.wf, IntKind.min, IntKind.max, IntKind.signed, IntKind.bits]; omega
    rw [h1]
    simp [DataW.trod, he, hw]
  have hd : ((List.range n).map fun i => (DataW.lit (H := H) (.int .u8 ((gb l i : Nat) : Int)))) = l.map fun k : Nat => .lit (.int .u8 (k : Int)) := by
    apply List.ext_getElem?
    intro i
    rw [List.getElem?_map, List.getElem?_map]
    by_cases hk : i < n
    · have e : l[i]? = some (gb l i) := by
        unfold gb; rw [List.getD_eq_getElem?_getD, List.getElem?_eq_getElem (by rw [hl.1]; exact hk)]; rfl
      rw [List.getElem?_range hk, e]; rfl
    · rw [List.getElem?_eq_none (by simpa using hk), List.getElem?_eq_none (by rw [hl.1]; omega)]; rfl
  unfold DataW.trod
  simp only [hu]
  rw [if_pos (by simp [hlen, hcn])]
  rw [hm]
  simp only [Option.map_some, List.map_map, Function.comp_def]
  rw [hd]
  unfold lit8
  simp
theorem chunks (k : Nat) (cs : List Value) : ∀ n, ((List.range n).map fun i => (cs.drop (i * k)).take k).flatten = cs.take (n * k)
  | 0 => by simp
  | n + 1 => by
    have ih := chunks k cs n
    rw [List.range_succ, List.map_append, List.flatten_append, ih, Nat.succ_mul, List.take_add]
    simp
theorem split82 (cs : List Value) (h : cs.length = 82) : cs = cs.take 1 ++ ((cs.drop 1).take 1 ++ ((cs.drop 2).take 16 ++ ((cs.drop 18).take 32 ++ (cs.drop 50).take 32))) := by
  have e4 : (cs.drop 50).take 32 = cs.drop 50 := List.take_of_length_le (by rw [List.length_drop, h]; decide)
  have e3 : (cs.drop 18).take 32 ++ cs.drop 50 = cs.drop 18 := by rw [show cs.drop 50 = (cs.drop 18).drop 32 by rw [List.drop_drop]]; exact List.take_append_drop _ _
  have e2 : (cs.drop 2).take 16 ++ cs.drop 18 = cs.drop 2 := by rw [show cs.drop 18 = (cs.drop 2).drop 16 by rw [List.drop_drop]]; exact List.take_append_drop _ _
  have e1 : (cs.drop 1).take 1 ++ cs.drop 2 = cs.drop 1 := by rw [show cs.drop 2 = (cs.drop 1).drop 1 by rw [List.drop_drop]]; exact List.take_append_drop _ _
  rw [e4, e3, e2, e1]; exact (List.take_append_drop 1 cs).symm
def litS {H : Type} (s : Slot) : DataW H := .agg [.lit (.bool s.used), .lit (.int .u16 (s.turns : Int)), lit8 s.salt, lit8 s.sld, lit8 s.chk]
def litT {H : Type} (T : List Slot) : DataW H := .agg (T.map litS)
theorem cellsTU : Tryd.prog.cellsOf 5 = 1 := by kernel_rfl
theorem cellsTB : Tryd.prog.cellsOf 4 = 1 := by kernel_rfl
theorem cellsT16 : Tryd.prog.cellsOf 22 = 1 := by kernel_rfl
theorem cellsTS : Tryd.prog.cellsOf 23 = 16 := by kernel_rfl
theorem cellsTK : Tryd.prog.cellsOf 25 = 32 := by kernel_rfl
theorem cellsTC : Tryd.prog.cellsOf 26 = 32 := by kernel_rfl
theorem cellsTSl : Tryd.prog.cellsOf 28 = 82 := by kernel_rfl
theorem cellsTT : Tryd.prog.cellsOf 30 = 656 := by kernel_rfl
theorem u16_of {a : Int} (h : (Lit.int .u16 a).wf = true) : ∃ n : Nat, n < 65536 ∧ a = (n : Int) := by
  have k : 0 ≤ a ∧ a ≤ 65535 := by simpa [Lit.wf, IntKind.min, IntKind.max, IntKind.signed, IntKind.bits] using h
  exact ⟨a.toNat, by omega, by omega⟩
section
variable {H : Type} {enc : TypeId × Value → H} {W : World} {base : Nat} {sp : Nat → Bool} {held : Bool}
theorem slot_open {fuel : Nat} {cs : List Value} {x : DataW H × List MemPlace} (hf : DataW.trod enc Tryd.prog W base sp held fuel 28 cs = some x) : ∃ s, Sok s ∧ cs = slc s ∧ x = (litS s, []) := by
  obtain ⟨xs, k, hk, hxy, hcl, hxl, hfs⟩ := DataW.trod_struct Tryd.underlying28 hf
  rw [cellsTSl] at hcl
  match xs, hxl with
  | [y0, y1, y2, y3, y4], _ =>
    have g0 : DataW.trod enc Tryd.prog W base sp held k 4 ((cs.drop 0).take (Tryd.prog.cellsOf 4)) = some y0 := hfs 0 _ rfl
    have g1 : DataW.trod enc Tryd.prog W base sp held k 22 ((cs.drop 1).take (Tryd.prog.cellsOf 22)) = some y1 := hfs 1 _ rfl
    have g2 : DataW.trod enc Tryd.prog W base sp held k 23 ((cs.drop 2).take (Tryd.prog.cellsOf 23)) = some y2 := hfs 2 _ rfl
    have g3 : DataW.trod enc Tryd.prog W base sp held k 25 ((cs.drop 18).take (Tryd.prog.cellsOf 25)) = some y3 := hfs 3 _ rfl
    have g4 : DataW.trod enc Tryd.prog W base sp held k 26 ((cs.drop 50).take (Tryd.prog.cellsOf 26)) = some y4 := hfs 4 _ rfl
    rw [cellsTB, List.drop_zero] at g0
    rw [cellsT16] at g1
    rw [cellsTS] at g2
    rw [cellsTK] at g3
    rw [cellsTC] at g4
    obtain ⟨u, q0, rfl⟩ := DataW.trod_bool Tryd.underlying4 g0
    obtain ⟨z1, q1, rfl, w1⟩ := DataW.trod_int Tryd.underlying22 g1
    obtain ⟨n, hn, rfl⟩ := u16_of w1
    obtain ⟨l2, b2, q2, rfl⟩ := row_open Tryd.underlying23 Tryd.underlying5 cellsTU cellsTS g2
    obtain ⟨l3, b3, q3, rfl⟩ := row_open Tryd.underlying25 Tryd.underlying5 cellsTU cellsTK g3
    obtain ⟨l4, b4, q4, rfl⟩ := row_open Tryd.underlying26 Tryd.underlying5 cellsTU cellsTC g4
    refine ⟨⟨u, n, l2, l3, l4⟩, ⟨hn, b2, b3, b4⟩, ?_, hxy⟩
    rw [split82 cs hcl, q0, q1, q2, q3, q4]; rfl
theorem slot_shut {s : Slot} (h : Sok s) : DataW.trod enc Tryd.prog W base sp held 3 28 (slc s) = some (litS s, []) := by
  have hw : (Lit.int .u16 ((s.turns : Nat) : Int)).wf = true := by
    have := h.turns
    simp [Lit.wf, IntKind.min, IntKind.max, IntKind.signed, IntKind.bits]; omega
  have g0 : DataW.trod enc Tryd.prog W base sp held 2 4 (((slc s).drop 0).take (Tryd.prog.cellsOf 4)) = some (.lit (.bool s.used), []) := by
    rw [cellsTB]; unfold slc; simp [DataW.trod, Tryd.underlying4]
  have g1 : DataW.trod enc Tryd.prog W base sp held 2 22 (((slc s).drop 1).take (Tryd.prog.cellsOf 22)) = some (.lit (.int .u16 (s.turns : Int)), []) := by
    rw [cellsT16]; unfold slc; simp [DataW.trod, Tryd.underlying22, hw]
  have e2 : (row8 s.salt).length = 16 := by rw [row8_len]; exact h.salt.1
  have e3 : (row8 s.sld).length = 32 := by rw [row8_len]; exact h.sld.1
  have e4 : (row8 s.chk).length = 32 := by rw [row8_len]; exact h.chk.1
  have g2 : DataW.trod enc Tryd.prog W base sp held 2 23 (((slc s).drop 2).take (Tryd.prog.cellsOf 23)) = some (lit8 s.salt, []) := by
    rw [cellsTS, show (slc s).drop 2 = row8 s.salt ++ (row8 s.sld ++ row8 s.chk) from rfl, List.take_left' e2]
    exact row_shut Tryd.underlying23 Tryd.underlying5 cellsTU cellsTS h.salt
  have g3 : DataW.trod enc Tryd.prog W base sp held 2 25 (((slc s).drop 18).take (Tryd.prog.cellsOf 25)) = some (lit8 s.sld, []) := by
    rw [cellsTK, show (slc s).drop 18 = (row8 s.salt ++ (row8 s.sld ++ row8 s.chk)).drop 16 from rfl, List.drop_left' e2, List.take_left' e3]
    exact row_shut Tryd.underlying25 Tryd.underlying5 cellsTU cellsTK h.sld
  have g4 : DataW.trod enc Tryd.prog W base sp held 2 26 (((slc s).drop 50).take (Tryd.prog.cellsOf 26)) = some (lit8 s.chk, []) := by
    rw [cellsTC, show (slc s).drop 50 = (row8 s.salt ++ (row8 s.sld ++ row8 s.chk)).drop (16 + 32) from rfl, ← List.drop_drop, List.drop_left' e2, List.drop_left' e3, List.take_of_length_le (by rw [e4]; decide)]
    exact row_shut Tryd.underlying26 Tryd.underlying5 cellsTU cellsTC h.chk
  have hm := trod_struct_mk (enc := enc) (P := Tryd.prog) (w := W) (base := base) (spare := sp) (held := held) (n := 2) (cs := slc s) (xs := [(.lit (.bool s.used), []), (.lit (.int .u16 (s.turns : Int)), []), (lit8 s.salt, []), (lit8 s.sld, []), (lit8 s.chk, [])]) Tryd.underlying28 (by rw [slc_len h, cellsTSl]) (by
    simp only [List.mapM_cons, List.mapM_nil, g0, g1, g2, g3, g4]; rfl)
  rw [hm]; rfl
theorem table_open {P : Program} {t e : TypeId} (hu : P.underlying t = some (.array 8 e)) (hct : P.cellsOf t = 656) (hce : P.cellsOf e = 82) {r : Reach} {b0 : Nat} {v : Value} {d : DataW H} {p : List MemPlace} (hval : Value.okWide P W r b0 t v) (h : DataW.Trod enc P W base sp held t v d p)
    (hso : ∀ (fuel : Nat) (cs : List Value) (x : DataW H × List MemPlace), DataW.trod enc P W base sp held fuel e cs = some x → ∃ s, Sok s ∧ cs = slc s ∧ x = (litS s, [])) :
    ∃ T : List Slot, Tok T ∧ v = .agg (tbc T).toArray ∧ d = litT T ∧ p = [] := by
  obtain ⟨cs, rfl, hsz, _⟩ : ∃ cs, v = .agg cs ∧ cs.size = P.cellsOf t ∧ Row.okWide P W r b0 t cs := by
    simpa [Value.okWide, hu] using hval
  obtain ⟨fuel, hf⟩ := h
  obtain ⟨xs, m, _, hx, hl, hn, hi⟩ := DataW.trod_array hu hf
  obtain ⟨cs⟩ := cs
  simp only [Value.cells] at hl hi
  rw [hct] at hl
  rw [hce] at hi
  have key : ∀ i, i < 8 → ∃ s, Sok s ∧ (cs.drop (i * 82)).take 82 = slc s ∧ xs[i]? = some (litS s, []) := fun i hin => by
    have h1 := hi i hin
    have e1 : xs[i]? = some (xs[i]'(by omega)) := List.getElem?_eq_getElem (by omega)
    rw [e1] at h1
    obtain ⟨s, h2, h3, h4⟩ := hso _ _ _ h1
    exact ⟨s, h2, h3, by rw [e1, h4]⟩
  obtain ⟨f, hf2⟩ : ∃ f : Nat → Slot, ∀ i, i < 8 → Sok (f i) ∧ (cs.drop (i * 82)).take 82 = slc (f i) ∧ xs[i]? = some (litS (f i), []) :=
    ⟨fun i => if h : i < 8 then (key i h).choose else none_, fun i h => by simp only [dif_pos h]; exact (key i h).choose_spec⟩
  refine ⟨(List.range 8).map f, ⟨by simp, fun s hs => ?_⟩, ?_, ?_, ?_⟩
  · obtain ⟨i, hi2, rfl⟩ := List.mem_map.1 hs
    exact (hf2 i (List.mem_range.1 hi2)).1
  · congr 1
    congr 1
    have e := chunks 82 cs 8
    rw [List.take_of_length_le (by rw [hl]; decide)] at e
    rw [← e]
    unfold tbc
    rw [List.map_map]
    congr 1
    apply List.map_congr_left
    intro i hi2
    exact (hf2 i (List.mem_range.1 hi2)).2.1
  · have e2 := congrArg Prod.fst hx
    simp only at e2
    rw [e2]; unfold litT; congr 1
    apply List.ext_getElem?
    intro i
    rw [List.getElem?_map, List.getElem?_map, List.getElem?_map]
    by_cases hk : i < 8
    · rw [(hf2 i hk).2.2, List.getElem?_range hk]; rfl
    · rw [List.getElem?_eq_none (by omega), List.getElem?_eq_none (by simpa using hk)]; rfl
  · have e2 := congrArg Prod.snd hx
    simp only at e2
    rw [e2, List.flatMap_eq_nil_iff]
    intro x hxm
    obtain ⟨i, hi2, e3⟩ := List.getElem_of_mem hxm
    have h4 := (hf2 i (by omega)).2.2
    rw [List.getElem?_eq_getElem hi2, e3] at h4
    cases h4; rfl
set_option maxRecDepth 100000 in
theorem open_table {r : Reach} {b0 : Nat} {v : Value} {d : DataW H} {p : List MemPlace} (hval : Value.okWide Tryd.prog W r b0 30 v) (h : DataW.Trod enc Tryd.prog W base sp held 30 v d p) :
    ∃ T : List Slot, Tok T ∧ v = .agg (tbc T).toArray ∧ d = litT T ∧ p = [] :=
  table_open Tryd.underlying30 cellsTT cellsTSl hval h fun _ _ _ hf => slot_open hf
theorem shut_table {T : List Slot} (hT : Tok T) : DataW.Trod enc Tryd.prog W base sp held 30 (.agg (tbc T).toArray) (litT T) [] := by
  refine ⟨4, ?_⟩
  have hm : ((List.range 8).mapM fun i => DataW.trod enc Tryd.prog W base sp held 3 28 (((tbc T).drop (i * Tryd.prog.cellsOf 28)).take (Tryd.prog.cellsOf 28))) = some ((List.range 8).map fun i => (litS (at_ T i), [])) := by
    refine mapM_some_of_get _ _ (by simp) fun i x hx => ?_
    have hin : i < 8 := by
      rcases Nat.lt_or_ge i 8 with h | h
      · exact h
      · rw [List.getElem?_eq_none (by simpa using h)] at hx; cases hx
    have hxe : x = i := by simp [hin] at hx; omega
    subst hxe
    rw [cellsTSl, List.getElem?_map, List.getElem?_range hin, tbc_drop hT.ok x (by rw [hT.len]; exact hin), slot_shut (hT.at_ hin)]; rfl
  have hd : ((List.range 8).map fun i => (litS (H := H) (at_ T i))) = T.map litS := by
    apply List.ext_getElem?
    intro i
    rw [List.getElem?_map, List.getElem?_map]
    by_cases hk : i < 8
    · rw [List.getElem?_range hk, at_eq (by rw [hT.len]; exact hk)]; rfl
    · rw [List.getElem?_eq_none (by simpa using hk), List.getElem?_eq_none (by rw [hT.len]; omega)]; rfl
  unfold DataW.trod
  simp only [Value.cells, Tryd.underlying30]
  rw [if_pos (by rw [cellsTT]; exact tbc_len hT)]
  rw [hm]
  simp only [Option.map_some, List.map_map, Function.comp_def]
  rw [hd]
  unfold litT
  simp
end
end Go.Proofs.YtbepchikngoknaaDoor
