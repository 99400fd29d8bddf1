/- Snapshots cut out of a slice of them. Own work. -/
import Derived.Test.YtkagapgganoomaaCtCat
import Derived.Test.YtkagapgganoomaaFactX
import Derived.Test.YtkagapgganoomaaFacG
import Derived.Deep.DeepCutAuto
namespace Go.Proofs.Ytkagapgganoomaa
open Go.ChangeShapes Go.WideShapes Go.ChangeAt Go.RowKit
open RT CT
theorem ex_cutT_h {o : Oper} {a : Act} {w : World} {x y : Operand} {ao : Option Addr} {n cap k : Nat} (ho : o.op = .slice 27 x none (some y) none) (hx : a.eval x = .slice ao n cap) (hy : a.eval y = .int .i64 (k : Int)) (hk : k ≤ cap) :
    (execOp a.eval o).run Try.prog w = .ok (.value (.slice ao k cap)) w := by
  have q3 : (k : Int) ≤ (cap : Int) := by omega
  unfold execOp
  rw [ho]
  simp only [Option.map_some, Option.map_none, hx, hy]
  cases ao <;> go_simp
theorem ex_cutT_l {o : Oper} {a : Act} {w : World} {x y : Operand} {ao : Option Addr} {n cap k : Nat} (ho : o.op = .slice 27 x (some y) none none) (hx : a.eval x = .slice ao n cap) (hy : a.eval y = .int .i64 (k : Int)) (hk : k ≤ n) (hn : n ≤ cap) :
    (execOp a.eval o).run Try.prog w = .ok (.value (.slice (if cap = k then ao else ao.map (·.add (k * 34))) (n - k) (cap - k))) w := by
  have q : (k : Int) ≤ (n : Int) := by omega
  have q2 : (n : Int) ≤ (cap : Int) := by omega
  unfold execOp
  rw [ho]
  simp only [Option.map_some, Option.map_none, hx, hy]
  cases ao <;> go_simp
theorem RdT.take34 {w : World} {ao : Option Addr} {cap n : Nat} {l : List Sn} (h : RdT 34 w (.slice ao n cap) n (sncs l)) (hp : ∀ s ∈ l, Pok s.top) (hn : n = l.length) {k : Nat} (hk : k ≤ n) : RdT 34 w (.slice ao k cap) (l.take k).length (sncs (l.take k)) := by
  have hl : (l.take k).length = k := by rw [List.length_take]; omega
  refine ⟨sncs_len (fun s hs => hp s (List.mem_of_mem_take hs)), ?_⟩
  rw [hl]
  rcases h.form with ⟨e, q⟩ | ⟨ad, cap', e, hc, hs⟩
  · injection e with e1 e2 e3
    subst e1; subst e3
    exact .inl ⟨by rw [show k = 0 by omega], by omega⟩
  · injection e with e1 e2 e3
    subst e1; subst e3
    refine .inr ⟨ad, cap, rfl, by omega, fun j u hu => hs j u ?_⟩
    have e : sncs l = sncs (l.take k) ++ sncs (l.drop k) := by rw [← sncs_app, List.take_append_drop]
    rw [e, List.getElem?_append_left (List.getElem?_eq_some_iff.1 hu).1]; exact hu
theorem RdT.drop34 {w : World} {ao : Option Addr} {cap n : Nat} {l : List Sn} (h : RdT 34 w (.slice ao n cap) n (sncs l)) (hp : ∀ s ∈ l, Pok s.top) (hn : n = l.length) (hcap : n ≤ cap) {k : Nat} (hk : k ≤ n) : RdT 34 w (.slice (if cap = k then ao else ao.map (·.add (k * 34))) (n - k) (cap - k)) (l.drop k).length (sncs (l.drop k)) := by
  have hl : (l.drop k).length = n - k := by rw [List.length_drop]; omega
  refine ⟨sncs_len (fun s hs => hp s (List.mem_of_mem_drop hs)), ?_⟩
  rw [hl]
  rcases h.form with ⟨e, q⟩ | ⟨ad, cap', e, hc, hs⟩
  · injection e with e1 e2 e3
    subst e1; subst e3
    refine .inl ⟨?_, by omega⟩
    obtain rfl : k = 0 := by omega
    rw [q]; simp
  · injection e with e1 e2 e3
    subst e1; subst e3
    by_cases hck : cap = k
    · rw [if_pos hck]
      refine .inr ⟨ad, cap - k, rfl, by omega, fun j u hu => ?_⟩
      have hz : l.drop k = [] := List.drop_eq_nil_of_le (by omega)
      rw [hz] at hu; simp [sncs] at hu
    · rw [if_neg hck]
      refine .inr ⟨ad.add (k * 34), cap - k, rfl, by omega, fun j u hu => ?_⟩
      rw [Addr.add_add]
      refine hs _ u ?_
      have e : sncs l = sncs (l.take k) ++ sncs (l.drop k) := by rw [← sncs_app, List.take_append_drop]
      have e1 : (sncs (l.take k)).length = k * 34 := by rw [sncs_len (fun s hs => hp s (List.mem_of_mem_take hs)), List.length_take]; congr 1; omega
      rw [e, List.getElem?_append_right (by omega), e1, Nat.add_sub_cancel_left]; exact hu
/-- A catalog built out of its parts; a snapshot likewise. -/
theorem built_ct (p : List Value) (hp : p.length = 33) (a : Option Addr) (n c : Nat) : Try.prog.built 29 [(0, .agg p.toArray), (1, .slice a n c)] = some (p ++ [Value.slice a n c]).toArray := by
  have e : Try.prog.built 29 [(0, .agg p.toArray), (1, .slice a n c)] = Instr.fill (#[(0, 33), (33, 1)][·]?) (ctc CT.zero (.slice none 0 0)).toArray [(0, .agg p.toArray), (1, .slice a n c)] := by kernel_rfl
  have z34 := ctc_len CT.zp_ok (c := CT.zero) (.slice none 0 0)
  rw [e]
  obtain ⟨Z, hZ⟩ : ∃ Z, Z = ctc CT.zero (.slice none 0 0) := ⟨_, rfl⟩
  rw [← hZ] at z34 ⊢
  have s1 : splice Z 0 p = p ++ Z.drop 33 := by unfold splice; rw [hp]; simp
  have s2 : splice (p ++ Z.drop 33) 33 [.slice a n c] = p ++ [Value.slice a n c] := by
    unfold splice
    rw [List.take_left' hp, List.drop_append, hp]
    simp [z34, hp]
  rw [fill_step _ 0 0 33 rfl _ p rfl hp Z (by omega), s1, fill_step _ 1 33 1 rfl _ [.slice a n c] rfl rfl _ (by rw [List.length_append, hp, List.length_drop, z34]; decide), s2, fill_nil]
theorem built_sn (p : List Value) (hp : p.length = 33) (s : ByteArray) : Try.prog.built 60 [(0, .string s), (1, .agg p.toArray)] = some (Value.string s :: p).toArray := by
  have e : Try.prog.built 60 [(0, .string s), (1, .agg p.toArray)] = Instr.fill (#[(0, 1), (1, 33)][·]?) zsn.toArray [(0, .string s), (1, .agg p.toArray)] := by kernel_rfl
  have z34 : zsn.length = 34 := by decide
  rw [e]
  obtain ⟨Z, hZ⟩ : ∃ Z, Z = zsn := ⟨_, rfl⟩
  rw [← hZ] at z34 ⊢
  have s1 : splice Z 0 [.string s] = Value.string s :: Z.drop 1 := by unfold splice; simp
  have s2 : splice (.string s :: Z.drop 1) 1 p = Value.string s :: p := by
    unfold splice
    rw [hp]
    have : (Value.string s :: Z.drop 1).drop (1 + 33) = [] := List.drop_eq_nil_of_le (by rw [List.length_cons, List.length_drop, z34]; decide)
    rw [this]; simp
  rw [fill_step _ 0 0 1 rfl _ [.string s] rfl rfl Z (by omega), s1, fill_step _ 1 1 33 rfl _ p rfl hp _ (by rw [List.length_cons, List.length_drop, z34]; decide), s2, fill_nil]
end Go.Proofs.Ytkagapgganoomaa
