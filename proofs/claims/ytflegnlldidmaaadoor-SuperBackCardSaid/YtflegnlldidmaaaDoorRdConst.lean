/- A constant text's bytes in memory. Own work. -/
import Derived.Test.YtflegnlldidmaaaDoorMem
namespace Go.Proofs.YtflegnlldidmaaaDoor
open Go.RowKit
/-- A constant text's bytes. -/
theorem rd_const (w : World) (l : List Nat) (hl : ∀ k, gb l k < 256) (hf : l.length ≤ 140737488355328) (n : Nat) (hn : n = l.length) (b : Nat) (hb : b = w.heap.size) (mk : Nat × Nat) : Rd (w.alloc (.cells (row8 l).toArray 5 mk)) (.slice (some ⟨b, 0, none⟩) n n) l := by
  subst hb; subst hn
  refine ⟨hl, hf, .inr ⟨_, _, rfl, Nat.le_refl _, fun j hj => ?_⟩⟩
  rw [Addr.add_mid, World.cell?_alloc_mark, Nat.zero_add]
  exact row8_get l j hj
theorem small_bytes {l : List Nat} (h : l.all (· < 256) = true) (k : Nat) : gb l k < 256 := by
  unfold gb
  rw [List.getD_eq_getElem?_getD]
  cases q : l[k]? with
  | none => show 0 < 256; omega
  | some x =>
    rw [List.all_eq_true] at h
    simpa using h x (List.mem_of_getElem? q)
end Go.Proofs.YtflegnlldidmaaaDoor
