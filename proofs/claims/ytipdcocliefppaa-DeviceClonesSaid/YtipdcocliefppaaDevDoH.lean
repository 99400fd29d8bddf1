/- A call on both, the program's device and the document's: contracts. Own work. -/
import Derived.Test.YtipdcocliefppaaDevWritten
import Derived.Test.YtipdcocliefppaaDevRefE
namespace Go.Proofs.Ytipdcocliefppaa
open Go.ChangeShapes Go.WideShapes Go.ChangeAt Go.RowKit
theorem dv_turn {w w' : World} {d : Nat} {F R G : Nat → Prop} {S : DM.DS} (h : Dv w d F R S) (t : Turn G w w') (hG : ∀ k, R k → ¬ G k) : Dv w' d F R S := h.keep t.size (fun k hk => t.block k (h.sub.2 k hk) (hG k hk))
theorem own_turn {w w' : World} {base : Nat} {v : Value} {l : List Nat} {F : Nat → Prop} (h : Own w base v l) (t : Turn F w w') (hne : ∀ g, v.ownBlock = some g → ¬ F g) : Own w' base v l := by
  refine ⟨?_, h.2⟩
  have ho := h.1
  refine ⟨ho.1, ?_⟩
  rcases ho.2 with q | ⟨g, cap, cur, e, hB, hh, rest⟩
  · exact .inl q
  · refine .inr ⟨g, cap, cur, e, hB, ?_, rest⟩
    have hlt : g < w.heap.size := (World.ownsRow.lt ho g (by rw [e]; rfl)).2
    rw [t.block g hlt (hne g (by rw [e]; rfl))]; exact hh
theorem blk_turn {w w' : World} {b : Nat} {t : TypeId} {vs : List Value} {F : Nat → Prop} (h : Blk w b t vs) (k : Turn F w w') (hne : ¬ F b) : Blk w' b t vs := by unfold Blk; rw [k.block b h.lt hne]; exact h
theorem rd_turn {w w' : World} {v : Value} {l : List Nat} {F : Nat → Prop} (h : Rd w v l) (t : Turn F w w') (hne : 0 < l.length → ∀ g, v.ownBlock = some g → ¬ F g) : Rd w' v l := by
  by_cases h0 : 0 < l.length
  · exact h.keep fun g hg hl => t.block g hl (hne h0 g hg)
  · refine ⟨h.byte, h.fits, ?_⟩
    rcases h.form with q | ⟨ad, cap, e, hc, _⟩
    · exact .inl q
    · exact .inr ⟨ad, cap, e, hc, fun j hj => absurd hj (by omega)⟩
theorem rl_turn {w w' : World} {v : Value} {l : List DM.LW} {F : Nat → Prop} (h : RL w v l) (t : Turn F w w') (hne : ∀ g, v.ownBlock = some g → ¬ F g) : RL w' v l :=
  ⟨h.rd.keep fun g hg hl => t.block g hl (hne g hg), fun g hg => Nat.lt_of_lt_of_le (h.lt g hg) t.size⟩
theorem turn_below {F : Nat → Prop} {a b c : World} (h : Turn F a b) (k : Below b.heap.size b c) : Turn F a c := h.trans (G := fun _ => False) (Turn.of_below k) nofun
/-- What a call on both leaves. -/
def DoPost (w : World) (d : Nat) (F R : Nat → Prop) (lv : Value) (T : DM.DS) (e : Ending) (w' : World) : Prop :=
  ∃ la n c F' R', e = .returned (.tuple #[.agg #[.int .i64 (T.most : Int), .string (bstr T.seen), .string (bstr T.safe), .slice la n c, .int .i64 (T.steps : Int), .bool T.down, .bool T.told, .int .i64 (T.after : Int), .bool T.done], .bool true]) ∧ RL w' (.slice la n c) T.loose ∧ Dv w' d F' R' T ∧ (∀ k, F' k → F k ∨ w.heap.size ≤ k) ∧ (∀ k, R' k → R k ∨ w.heap.size ≤ k) ∧ Turn F w w' ∧ (∀ g, (.slice la n c : Value).ownBlock = some g → (lv.ownBlock = some g ∨ w.heap.size ≤ g) ∧ ¬ F' g)
end Go.Proofs.Ytipdcocliefppaa
