/- Texts of one subject in one file: LaidTwo, LaidMany. Own work. -/
import Derived.Test.YtbepchikngoknaaDoorRows
import Derived.LaidLaws
import Derived.LaidHandle
import Derived.Lay
/- Two long tables listed together meet the door: out of what holds of each alone (the run over both ran the kernel out of memory). Own work over the library's laws. -/
namespace Go.Proofs.YtbepchikngoknaaDoor

theorem row_nodup (g m : Nat) : (MemPlace.row ⟨g, 0, none⟩ m).Nodup := by
  unfold MemPlace.row
  refine List.Pairwise.map _ (fun a b hab => ?_) List.nodup_range
  intro q
  injection q with _ q
  simp at q
  exact hab q
theorem laidRun_more {P : Program} {w : World} {fuel : Nat} {a : String} {bs : List String} {da : DataW Unit} {ds : List (String × DataW Unit)} {p q : List MemPlace} (h1 : DataW.laidRun P w fuel [a] = some ([(a, da)], p)) (h2 : DataW.laidRun P w fuel bs = some (ds, q)) :
    DataW.laidRun P w fuel (a :: bs) = some ((a, da) :: ds, p ++ q) := by
  rw [DataW.laidRun] at h1 ⊢
  rw [h2]
  cases e1 : P.globalNamed a with
  | none => rw [e1] at h1; simp at h1
  | some g =>
    rw [e1] at h1
    simp only at h1 ⊢
    cases e2 : (P.globals[g]?).map (·.type) with
    | none => rw [e2] at h1; simp at h1
    | some t =>
      cases e3 : w.var? P a with
      | none => rw [e2, e3] at h1; simp at h1
      | some cs =>
        rw [e2, e3] at h1
        simp only [DataW.laidRun] at h1 ⊢
        cases e4 : DataW.trod (fun _ => ()) P w 0 (fun _ => true) false fuel t cs.toList with
        | none => rw [e4] at h1; simp at h1
        | some x =>
          rw [e4] at h1
          simp only [Option.some.injEq, Prod.mk.injEq, List.append_nil, List.cons.injEq] at h1 ⊢
          obtain ⟨⟨⟨_, h3⟩, _⟩, h4⟩ := h1
          exact ⟨⟨⟨trivial, h3⟩, trivial⟩, by rw [h4]⟩
theorem laidRun_two {P : Program} {w : World} {fuel : Nat} {a b : String} {da db : DataW Unit} {p q : List MemPlace} (h1 : DataW.laidRun P w fuel [a] = some ([(a, da)], p)) (h2 : DataW.laidRun P w fuel [b] = some ([(b, db)], q)) :
    DataW.laidRun P w fuel [a, b] = some ([(a, da), (b, db)], p ++ q) := laidRun_more h1 h2
theorem laidMet_two {P : Program} {w : World} {fuel : Nat} {a b : String} {da db : DataW Unit} {ga gb m n : Nat} (h1 : DataW.laidRun P w fuel [a] = some ([(a, da)], MemPlace.row ⟨ga, 0, none⟩ m)) (h2 : DataW.laidRun P w fuel [b] = some ([(b, db)], MemPlace.row ⟨gb, 0, none⟩ n))
    (r1 : laidRowsB P w (MemPlace.row ⟨ga, 0, none⟩ m) = true) (r2 : laidRowsB P w (MemPlace.row ⟨gb, 0, none⟩ n) = true) (hne : ga ≠ gb) : laidMet P [(a, da), (b, db)] w := by
  refine laidMet_of_run fuel (laidRun_two h1 h2) (decide_eq_true ?_) ?_
  · refine List.nodup_append.2 ⟨row_nodup ga m, row_nodup gb n, fun x hx y hy e => ?_⟩
    obtain ⟨i, _, rfl⟩ := MemPlace.mem_row.1 hx
    obtain ⟨j, _, rfl⟩ := MemPlace.mem_row.1 hy
    injection e with e _
    exact hne e
  · unfold laidRowsB at r1 r2 ⊢
    rw [List.all_append, r1, r2]; rfl
theorem laidMet_three {P : Program} {w : World} {fuel : Nat} {a b c : String} {da db dc : DataW Unit} {ga gb gc m n k : Nat} (h1 : DataW.laidRun P w fuel [a] = some ([(a, da)], MemPlace.row ⟨ga, 0, none⟩ m)) (h2 : DataW.laidRun P w fuel [b] = some ([(b, db)], MemPlace.row ⟨gb, 0, none⟩ n)) (h3 : DataW.laidRun P w fuel [c] = some ([(c, dc)], MemPlace.row ⟨gc, 0, none⟩ k))
    (r1 : laidRowsB P w (MemPlace.row ⟨ga, 0, none⟩ m) = true) (r2 : laidRowsB P w (MemPlace.row ⟨gb, 0, none⟩ n) = true) (r3 : laidRowsB P w (MemPlace.row ⟨gc, 0, none⟩ k) = true) (hab : ga ≠ gb) (hac : ga ≠ gc) (hbc : gb ≠ gc) : laidMet P [(a, da), (b, db), (c, dc)] w := by
  have apart : ∀ {g g' m n : Nat}, g ≠ g' → ∀ x ∈ MemPlace.row ⟨g, 0, none⟩ m, ∀ y ∈ MemPlace.row ⟨g', 0, none⟩ n, x ≠ y := fun hne x hx y hy e => by
    obtain ⟨i, _, rfl⟩ := MemPlace.mem_row.1 hx
    obtain ⟨j, _, rfl⟩ := MemPlace.mem_row.1 hy
    injection e with e _
    exact hne e
  refine laidMet_of_run fuel (laidRun_more h1 (laidRun_two h2 h3)) (decide_eq_true ?_) ?_
  · refine List.nodup_append.2 ⟨row_nodup ga m, List.nodup_append.2 ⟨row_nodup gb n, row_nodup gc k, apart hbc⟩, fun x hx y hy => ?_⟩
    rcases List.mem_append.1 hy with q | q
    · exact apart hab x hx y q
    · exact apart hac x hx y q
  · unfold laidRowsB at r1 r2 r3 ⊢
    rw [List.all_append, List.all_append, r1, r2, r3]; rfl
end Go.Proofs.YtbepchikngoknaaDoor
/- Many long tables listed together meet the door: out of what holds of each alone. Own work over the library's laws. -/
namespace Go.Proofs.YtbepchikngoknaaDoor
/-- A table: its name, its data, its block, how many cells. -/
abbrev Tabled := (String × DataW Unit) × Nat × Nat
def Tabled.row (x : Tabled) : List MemPlace := MemPlace.row ⟨x.2.1, 0, none⟩ x.2.2
def Tabled.met (P : Program) (w : World) (fuel : Nat) (x : Tabled) : Prop := DataW.laidRun P w fuel [x.1.1] = some ([x.1], x.row) ∧ laidRowsB P w x.row = true
theorem laidRun_many {P : Program} {w : World} {fuel : Nat} : ∀ L : List Tabled, (∀ x ∈ L, x.met P w fuel) → DataW.laidRun P w fuel (L.map (·.1.1)) = some (L.map (·.1), (L.map Tabled.row).flatten)
  | [], _ => rfl
  | x :: L, h => by
    have h1 := (h x (List.mem_cons_self ..)).1
    have h2 := laidRun_many L fun y hy => h y (List.mem_cons_of_mem _ hy)
    exact laidRun_more (da := x.1.2) h1 h2
theorem apart_rows {x y : Tabled} (hne : x.2.1 ≠ y.2.1) : ∀ p ∈ x.row, ∀ q ∈ y.row, p ≠ q := fun p hp q hq e => by
  obtain ⟨i, _, rfl⟩ := MemPlace.mem_row.1 hp
  obtain ⟨j, _, rfl⟩ := MemPlace.mem_row.1 hq
  injection e with e _
  exact hne e
theorem nodup_rows : ∀ L : List Tabled, (L.map (·.2.1)).Nodup → (L.map Tabled.row).flatten.Nodup
  | [], _ => List.nodup_nil
  | x :: L, h => by
    rw [List.map_cons, List.nodup_cons] at h
    rw [List.map_cons, List.flatten_cons]
    refine List.nodup_append.2 ⟨row_nodup _ _, nodup_rows L h.2, fun p hp q hq => ?_⟩
    obtain ⟨r, hr, hqr⟩ := List.mem_flatten.1 hq
    obtain ⟨y, hy, rfl⟩ := List.mem_map.1 hr
    exact apart_rows (x := x) (y := y) (fun e => h.1 (List.mem_map.2 ⟨y, hy, e.symm⟩)) p hp q hqr
theorem rows_many {P : Program} {w : World} {fuel : Nat} : ∀ L : List Tabled, (∀ x ∈ L, x.met P w fuel) → laidRowsB P w (L.map Tabled.row).flatten = true
  | [], _ => rfl
  | x :: L, h => by
    have h1 := (h x (List.mem_cons_self ..)).2
    have h2 := rows_many L fun y hy => h y (List.mem_cons_of_mem _ hy)
    rw [List.map_cons, List.flatten_cons]
    unfold laidRowsB at h1 h2 ⊢
    rw [List.all_append, h1, h2]; rfl
theorem laidMet_many {P : Program} {w : World} {fuel : Nat} (L : List Tabled) (h : ∀ x ∈ L, x.met P w fuel) (hd : (L.map (·.2.1)).Nodup) : laidMet P (L.map (·.1)) w :=
  laidMet_of_run fuel (by rw [List.map_map]; exact laidRun_many L h) (decide_eq_true (nodup_rows L hd)) (rows_many L h)
end Go.Proofs.YtbepchikngoknaaDoor
