/- Many long tables listed together meet the door: out of what holds of each alone. Own work over the library's laws. -/
import Derived.Test.YtjemajenfkjelaaDoorLaidTwo
namespace Go.Proofs.YtjemajenfkjelaaDoor
/-- A table: its name, its data, its block, how many cells. -/
abbrev Tabled := (String × DataW Unit) × Nat × Nat
def Tabled.row (x : Tabled) : List MemPlace := MemPlace.row ⟨x.2.1, 0, none⟩ x.2.2
def Tabled.met (P : Program) (w : World) (fuel : Nat) (x : Tabled) : Prop := DataW.laidRun P w fuel [x.1.1] = some ([x.1], x.row) ∧ laidRowsB P w x.row = true
theorem laidRun_many {P : Program} {w : World} {fuel : Nat} : ∀ L : List Tabled, (∀ x ∈ L, x.met P w fuel) → DataW.laidRun P w fuel (L.map (·.1.1)) = some (L.map (·.1), (L.map Tabled.row).flatten)
  | [], _ => rfl
  | x :: L, h => by
    have h1 := (h x (List.mem_cons_self ..)).1
    have h2 := laidRun_many L fun y hy => h y (List.mem_cons_of_mem _ hy)
    exact laidRun_more (da := x.1.2) h1 h2
theorem apart_rows {x y : Tabled} (hne : x.2.1 ≠ y.2.1) : ∀ p ∈ x.row, ∀ q ∈ y.row, p ≠ q := fun p hp q hq e => by
  obtain ⟨i, _, rfl⟩ := MemPlace.mem_row.1 hp
  obtain ⟨j, _, rfl⟩ := MemPlace.mem_row.1 hq
  injection e with e _
  exact hne e
theorem nodup_rows : ∀ L : List Tabled, (L.map (·.2.1)).Nodup → (L.map Tabled.row).flatten.Nodup
  | [], _ => List.nodup_nil
  | x :: L, h => by
    rw [List.map_cons, List.nodup_cons] at h
    rw [List.map_cons, List.flatten_cons]
    refine List.nodup_append.2 ⟨row_nodup _ _, nodup_rows L h.2, fun p hp q hq => ?_⟩
    obtain ⟨r, hr, hqr⟩ := List.mem_flatten.1 hq
    obtain ⟨y, hy, rfl⟩ := List.mem_map.1 hr
    exact apart_rows (x := x) (y := y) (fun e => h.1 (List.mem_map.2 ⟨y, hy, e.symm⟩)) p hp q hqr
theorem rows_many {P : Program} {w : World} {fuel : Nat} : ∀ L : List Tabled, (∀ x ∈ L, x.met P w fuel) → laidRowsB P w (L.map Tabled.row).flatten = true
  | [], _ => rfl
  | x :: L, h => by
    have h1 := (h x (List.mem_cons_self ..)).2
    have h2 := rows_many L fun y hy => h y (List.mem_cons_of_mem _ hy)
    rw [List.map_cons, List.flatten_cons]
    unfold laidRowsB at h1 h2 ⊢
    rw [List.all_append, h1, h2]; rfl
theorem laidMet_many {P : Program} {w : World} {fuel : Nat} (L : List Tabled) (h : ∀ x ∈ L, x.met P w fuel) (hd : (L.map (·.2.1)).Nodup) : laidMet P (L.map (·.1)) w :=
  laidMet_of_run fuel (by rw [List.map_map]; exact laidRun_many L h) (decide_eq_true (nodup_rows L hd)) (rows_many L h)
end Go.Proofs.YtjemajenfkjelaaDoor
