/- A geometry (a struct of two numbers) by value among a law's arguments: opened and shut. Own work. -/
import Derived.Test.YtflegnlldidmaaaDoorMem
import Derived.OpenShut
namespace Go.Proofs.YtflegnlldidmaaaDoor
open Go.ChangeShapes Go.WideShapes Go.ChangeAt Go.RowKit
def litGeo {H : Type} (C P : Int) : DataW H := .agg [.lit (.int .i64 C), .lit (.int .i64 P)]
theorem cellsGI : Tryd.prog.cellsOf 3 = 1 := by kernel_rfl
theorem cellsGG : Tryd.prog.cellsOf 23 = 2 := by kernel_rfl
section
variable {H : Type} {enc : TypeId × Value → H} {W : World} {base : Nat} {sp : Nat → Bool} {held : Bool}
theorem open_geo {r : Reach} {b0 : Nat} {v : Value} {d : DataW H} {p : List MemPlace} (hval : Value.okWide Tryd.prog W r b0 23 v) (h : DataW.Trod enc Tryd.prog W base sp held 23 v d p) :
    ∃ C P : Int, (Lit.int .i64 C).wf = true ∧ (Lit.int .i64 P).wf = true ∧ v = .agg #[.int .i64 C, .int .i64 P] ∧ d = litGeo C P ∧ p = [] := by
  obtain ⟨cs, rfl, hsz, _⟩ : ∃ cs, v = .agg cs ∧ cs.size = Tryd.prog.cellsOf 23 ∧ Row.okWide Tryd.prog W r b0 23 cs := by
    simpa [Value.okWide, Tryd.underlying23] using hval
  obtain ⟨fuel, hf⟩ := h
  obtain ⟨cs⟩ := cs
  simp only [Value.cells] at hf
  obtain ⟨xs, k, hk, hxy, hcl, hxl, hfs⟩ := DataW.trod_struct Tryd.underlying23 hf
  rw [cellsGG] at hcl
  match xs, hxl with
  | [y0, y1], _ =>
    have g0 : DataW.trod enc Tryd.prog W base sp held k 3 ((cs.drop 0).take (Tryd.prog.cellsOf 3)) = some y0 := hfs 0 _ rfl
    have g1 : DataW.trod enc Tryd.prog W base sp held k 3 ((cs.drop 1).take (Tryd.prog.cellsOf 3)) = some y1 := hfs 1 _ rfl
    rw [cellsGI, List.drop_zero] at g0
    rw [cellsGI] at g1
    obtain ⟨C, q0, rfl, w0⟩ := DataW.trod_int Tryd.underlying3 g0
    obtain ⟨P, q1, rfl, w1⟩ := DataW.trod_int Tryd.underlying3 g1
    have hcs : cs = [.int .i64 C, .int .i64 P] := by
      match cs, hcl with
      | [a, b], _ =>
        simp at q0 q1
        rw [q0, q1]
    refine ⟨C, P, w0, w1, by rw [hcs], ?_, ?_⟩
    · have := congrArg Prod.fst hxy; simpa [litGeo] using this
    · have := congrArg Prod.snd hxy; simpa using this
theorem shut_geo {C P : Int} (hC : (Lit.int .i64 C).wf = true) (hP : (Lit.int .i64 P).wf = true) : DataW.Trod enc Tryd.prog W base sp held 23 (.agg #[.int .i64 C, .int .i64 P]) (litGeo C P) [] := by
  refine ⟨3, ?_⟩
  have g : ∀ x : Int, (Lit.int .i64 x).wf = true → DataW.trod enc Tryd.prog W base sp held 2 3 [.int .i64 x] = some (.lit (.int .i64 x), []) := fun x hx => by
    simp [DataW.trod, Tryd.underlying3, hx]
  have g0 : DataW.trod enc Tryd.prog W base sp held 2 3 ((([Value.int .i64 C, .int .i64 P] : List Value).drop 0).take (Tryd.prog.cellsOf 3)) = some (.lit (.int .i64 C), []) := by rw [cellsGI]; exact g C hC
  have g1 : DataW.trod enc Tryd.prog W base sp held 2 3 ((([Value.int .i64 C, .int .i64 P] : List Value).drop 1).take (Tryd.prog.cellsOf 3)) = some (.lit (.int .i64 P), []) := by rw [cellsGI]; exact g P hP
  have hm := trod_struct_mk (enc := enc) (P := Tryd.prog) (w := W) (base := base) (spare := sp) (held := held) (n := 2) (cs := [.int .i64 C, .int .i64 P]) (xs := [(.lit (.int .i64 C), []), (.lit (.int .i64 P), [])]) Tryd.underlying23 (by rw [cellsGG]; rfl) (by
    simp only [List.mapM_cons, List.mapM_nil, g0, g1]; rfl)
  show DataW.trod enc Tryd.prog W base sp held 3 23 [.int .i64 C, .int .i64 P] = _
  rw [hm]; rfl
end
end Go.Proofs.YtflegnlldidmaaaDoor
