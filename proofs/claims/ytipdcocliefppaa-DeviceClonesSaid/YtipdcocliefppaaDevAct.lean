/- Any call on both: contract; what holds of a device behind few calls. Own work. -/
import Derived.Test.YtipdcocliefppaaDevDoA
import Derived.Test.YtipdcocliefppaaDevDoB
import Derived.Test.YtipdcocliefppaaDevDoC
namespace Go.Proofs.Ytipdcocliefppaa
open Go.ChangeShapes Go.WideShapes Go.ChangeAt Go.RowKit
namespace DM
/-- What a call leaves. -/
def act (S : DS) (x : AD) : DS :=
  match x.kind % 9 with
  | 3 => (sync S).1
  | 4 => (beat S).1
  | 5 => (fail S x.at_ x.done).1
  | 6 => start S x.data
  | 7 => edit S x.at_ x.data
  | 8 => load S x.data
  | _ => (write S x.at_ x.data).1
/-- What holds behind j calls. -/
structure Calm (S : DS) (j : Nat) : Prop where
  ok : Ok S
  steps : S.steps ≤ j
  loose : S.loose.length ≤ 42 * j
  after : S.after ≤ 9223372036854775807
theorem Calm.tame {S : DS} {j : Nat} (h : Calm S j) (hj : j ≤ 100) : Tame S := ⟨h.ok, by have := h.steps; omega, by have := h.loose; omega, h.after⟩
theorem Calm.new (n : Int) : Calm (new n) 0 := ⟨Ok.new n, Nat.le_refl _, Nat.le_refl _, Nat.zero_le _⟩
theorem step_after (d x : DS) (n : Nat) (h1 : d.after ≤ n) (h2 : x.after ≤ n) : (step d x).1.after ≤ n := by
  unfold DM.step
  split
  · exact h2
  · split
    · show x.after - 1 ≤ n; omega
    · show ({ (if d.done then x else d) with steps := _, down := true, told := false } : DS).after ≤ n
      split
      · exact h2
      · exact h1
theorem Calm.act {S : DS} {j : Nat} (h : Calm S j) (x : AD) (hd : x.data.length ≤ 20000) (ha : x.at_ ≤ 9223372036854775807) (hb : ∀ k, gb x.data k < 256) : Calm (act S x) (j + 1) := by
  have hs := h.steps
  have hl := h.loose
  have hf := h.after
  unfold DM.act
  split
  · refine ⟨h.ok.sync, Nat.le_trans (sync_steps S) (by omega), Nat.le_trans (sync_loose S) (by omega), ?_⟩
    unfold DM.sync
    split
    · exact hf
    · exact step_after S _ _ hf hf
  · refine ⟨h.ok.beat, ?_, ?_, ?_⟩
    · unfold DM.beat
      split
      · exact Nat.le_trans hs (by omega)
      · rw [step_steps S S rfl]; omega
    · unfold DM.beat
      split
      · show S.loose.length ≤ _; omega
      · exact step_loose S S _ (by omega) (by omega)
    · unfold DM.beat
      split
      · exact hf
      · exact step_after S _ _ hf hf
  · refine ⟨h.ok.fail _ _, ?_, ?_, ?_⟩
    · unfold DM.fail
      split
      · show S.steps ≤ _; omega
      · show S.steps ≤ _; omega
    · unfold DM.fail
      split
      · show S.loose.length ≤ _; omega
      · show S.loose.length ≤ _; omega
    · unfold DM.fail
      split
      · exact hf
      · show x.at_.toNat ≤ _; omega
  · exact ⟨h.ok.start _, by show S.steps ≤ _; omega, Nat.zero_le _, Nat.zero_le _⟩
  · refine ⟨h.ok.edit _ _ hb, ?_, ?_, ?_⟩
    · unfold DM.edit
      split
      · show S.steps ≤ _; omega
      · show S.steps ≤ _; omega
    · unfold DM.edit
      split
      · show S.loose.length ≤ _; omega
      · show S.loose.length ≤ _; omega
    · unfold DM.edit
      split
      · exact hf
      · exact hf
  · refine ⟨h.ok.load _ hb, ?_, ?_, ?_⟩
    · unfold DM.load
      split
      · show S.steps ≤ _; omega
      · show S.steps ≤ _; omega
    · unfold DM.load
      split
      · show S.loose.length ≤ _; omega
      · exact Nat.zero_le _
    · unfold DM.load
      split
      · exact hf
      · exact hf
  · refine ⟨h.ok.write _ _ hb, Nat.le_trans (write_steps S _ _) (by omega), Nat.le_trans (write_loose S _ _) (by omega), ?_⟩
    unfold DM.write
    split
    · exact hf
    · split
      · exact hf
      · split
        · exact hf
        · exact step_after S _ _ hf hf
end DM
theorem do_any (d : Nat) (F R : Nat → Prop) (S : DM.DS) (x : AD) (w : World) (hdv : Dv w d F R S) (htm : Tame S) (da : Option Addr) (dl dc : Nat) (hl : RL w (.slice da dl dc) S.loose) (hlv : ∀ g, (.slice da dl dc : Value).ownBlock = some g → ¬ F g) (ua : Option Addr) (uc : Nat) (hu : Rd w (.slice ua x.data.length uc) x.data) (huf : 0 < x.data.length → ∀ g, (.slice ua x.data.length uc : Value).ownBlock = some g → ¬ F g) (hdl : x.data.length ≤ 20000) (hat : -9223372036854775808 ≤ x.at_ ∧ x.at_ ≤ 9223372036854775807) (hk8 : x.kind < 256) :
    Calls Try.prog 12 #[.pointer (some ⟨d, 0, none⟩), .agg #[.int .i64 (S.most : Int), .string (bstr S.seen), .string (bstr S.safe), .slice da dl dc, .int .i64 (S.steps : Int), .bool S.down, .bool S.told, .int .i64 (S.after : Int), .bool S.done], .agg #[.int .u8 (x.kind : Int), .int .i64 x.at_, .slice ua x.data.length uc, .bool x.done]] w (DoPost w d F R (.slice da dl dc) (DM.act S x)) := by
  have hm : x.kind % 9 < 9 := Nat.mod_lt _ (by omega)
  by_cases h3 : x.kind % 9 = 3
  · rw [show DM.act S x = (DM.sync S).1 from by simp only [DM.act, h3]]
    exact do_sync d F R S x w hdv htm da dl dc hl hlv ua uc hu huf hdl hat hk8 h3
  by_cases h4 : x.kind % 9 = 4
  · rw [show DM.act S x = (DM.beat S).1 from by simp only [DM.act, h4]]
    exact do_beat d F R S x w hdv htm da dl dc hl hlv ua uc hu huf hdl hat hk8 h4
  by_cases h5 : x.kind % 9 = 5
  · rw [show DM.act S x = (DM.fail S x.at_ x.done).1 from by simp only [DM.act, h5]]
    exact do_fail d F R S x w hdv htm da dl dc hl hlv ua uc hu huf hdl hat hk8 h5
  by_cases h6 : x.kind % 9 = 6
  · rw [show DM.act S x = (DM.start S x.data) from by simp only [DM.act, h6]]
    exact do_start d F R S x w hdv htm da dl dc hl hlv ua uc hu huf hdl hat hk8 h6
  by_cases h7 : x.kind % 9 = 7
  · rw [show DM.act S x = (DM.edit S x.at_ x.data) from by simp only [DM.act, h7]]
    exact do_edit d F R S x w hdv htm da dl dc hl hlv ua uc hu huf hdl hat hk8 h7
  by_cases h8 : x.kind % 9 = 8
  · rw [show DM.act S x = (DM.load S x.data) from by simp only [DM.act, h8]]
    exact do_load d F R S x w hdv htm da dl dc hl hlv ua uc hu huf hdl hat hk8 h8
  have h2 : x.kind % 9 ≤ 2 := by omega
  rw [show DM.act S x = (DM.write S x.at_ x.data).1 from by
    unfold DM.act
    split
    · omega
    · omega
    · omega
    · omega
    · omega
    · omega
    · rfl]
  exact do_write d F R S x w hdv htm da dl dc hl hlv ua uc hu huf hdl hat hk8 h2
end Go.Proofs.Ytipdcocliefppaa
