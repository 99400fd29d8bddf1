/- What the laws over keys of passphrases share: keys compared, what every right program makes of a known passphrase, which turns are light. Own work. -/
import Derived.Test.YteklchmbeiclcaaDoorKdfProg
import Derived.Test.YteklchmbeiclcaaDoorKdfKnown
import Derived.Test.YteklchmbeiclcaaDoorMem
import Derived.Test.YteklchmbeiclcaaDoorRdConst
import Derived.Lib.SlBytesConst
namespace Go.Proofs.YteklchmbeiclcaaDoor
open Go.ChangeShapes Go.WideShapes Go.ChangeAt Go.RowKit
open SM
/-- Two keys are compared. -/
theorem run_eql_key {x y : List Nat} (hx : Bytes 32 x) (hy : Bytes 32 y) (w : World) : (binOp .eql 33 (.agg (row8 x).toArray) (.agg (row8 y).toArray)).run Tryd.prog w = .ok (.bool (decide (x = y))) w :=
  run_eql_row 33 5 32 Tryd.underlying33 Tryd.underlying5 sizeB x y hx hy w
theorem eqTypeK : Tryd.prog.eqGuardType Tryd.prog.depth 33 = false := by kernel_rfl
theorem infoK : (Tryd.prog.info? 33).map (·.size) = some 32 := by kernel_rfl
theorem run_neq_key {x y : List Nat} (hx : Bytes 32 x) (hy : Bytes 32 y) (w : World) : (binOp .neq 33 (.agg (row8 x).toArray) (.agg (row8 y).toArray)).run Tryd.prog w = .ok (.bool (!decide (x = y))) w := by
  have h := run_eql_key hx hy w
  simp only [binOp, Sem.run_bind, Sem.run_pure] at h ⊢
  cases q : (Op.equal 33 (.agg (row8 x).toArray) (.agg (row8 y).toArray)).run Tryd.prog w with
  | ok b w' =>
    rw [q] at h
    simp only [Result.andThen_ok, Result.ok.injEq, Value.bool.injEq] at h ⊢
    exact ⟨by rw [h.1], h.2⟩
  | _ => rw [q] at h; simp [Result.andThen] at h
/-- Few enough turns for a statement. -/
def Light (t z : Int) : Prop := t < 1 ∨ 4096 < t ∨ z < 0 ∨ 1024 < z ∨ t ≤ 64 ∨ (z ≤ 32 ∧ t ≤ 512)
set_option maxHeartbeats 2000000 in
theorem klight_any (t z : Int) (w : World) : Calls Tryd.prog 8 #[.int .i64 t, .int .i64 z] w fun e w' => (∃ v, e = .returned v ∧ (v = .bool true ∧ Light t z ∨ v = .bool false ∧ ¬ Light t z)) ∧ w' = w := by
  by_cases h1 : t < 1
  · go_enter Tryd.func8, Tryd.ntmps8
    go_wp2_with fail
    go_ret
    exact ⟨⟨.bool true, rfl, .inl ⟨rfl, by unfold Light; omega⟩⟩, rfl⟩
  by_cases h2 : 4096 < t
  · go_enter Tryd.func8, Tryd.ntmps8
    go_wp2_with fail
    go_ret
    exact ⟨⟨.bool true, rfl, .inl ⟨rfl, by unfold Light; omega⟩⟩, rfl⟩
  by_cases h3 : z < 0
  · go_enter Tryd.func8, Tryd.ntmps8
    go_wp2_with fail
    go_ret
    exact ⟨⟨.bool true, rfl, .inl ⟨rfl, by unfold Light; omega⟩⟩, rfl⟩
  by_cases h4 : 1024 < z
  · go_enter Tryd.func8, Tryd.ntmps8
    go_wp2_with fail
    go_ret
    exact ⟨⟨.bool true, rfl, .inl ⟨rfl, by unfold Light; omega⟩⟩, rfl⟩
  by_cases h5 : t ≤ 64
  · go_enter Tryd.func8, Tryd.ntmps8
    go_wp2_with fail
    go_ret
    exact ⟨⟨.bool true, rfl, .inl ⟨rfl, by unfold Light; omega⟩⟩, rfl⟩
  by_cases h6 : z ≤ 32
  · by_cases h7 : t ≤ 512
    · go_enter Tryd.func8, Tryd.ntmps8
      go_wp2_with fail
      go_ret
      exact ⟨⟨.bool true, rfl, .inl ⟨rfl, by unfold Light; omega⟩⟩, rfl⟩
    · go_enter Tryd.func8, Tryd.ntmps8
      go_wp2_with fail
      go_ret
      exact ⟨⟨.bool false, rfl, .inr ⟨rfl, by unfold Light; omega⟩⟩, rfl⟩
  · go_enter Tryd.func8, Tryd.ntmps8
    go_wp2_with fail
    go_ret
    exact ⟨⟨.bool false, rfl, .inr ⟨rfl, by unfold Light; omega⟩⟩, rfl⟩
theorem klight_yes (t z : Int) (w : World) (h : Light t z) : Calls Tryd.prog 8 #[.int .i64 t, .int .i64 z] w fun e w' => e = .returned (.bool true) ∧ w' = w :=
  (klight_any t z w).mono fun e w' q => by
    obtain ⟨⟨v, h1, h2⟩, h3⟩ := q
    rcases h2 with ⟨rfl, _⟩ | ⟨_, h2⟩
    · exact ⟨h1, h3⟩
    · exact absurd h h2
theorem klight_no (t z : Int) (w : World) (h : ¬ Light t z) : Calls Tryd.prog 8 #[.int .i64 t, .int .i64 z] w fun e w' => e = .returned (.bool false) ∧ w' = w :=
  (klight_any t z w).mono fun e w' q => by
    obtain ⟨⟨v, h1, h2⟩, h3⟩ := q
    rcases h2 with ⟨_, h2⟩ | ⟨rfl, _⟩
    · exact absurd h2 h
    · exact ⟨h1, h3⟩
def password : List Nat := [112, 97, 115, 115, 119, 111, 114, 100]
def salt : List Nat := [115, 97, 108, 116]
theorem kerr_ok (p s : List Nat) (t z : Int) (h1 : p.length ≤ 512) (h2 : s.length ≤ 1024) (h3 : 1 ≤ t) (h4 : t ≤ 4096) (h5 : 0 ≤ z) (h6 : z ≤ 1024) : kerr p s t z = 0 := by
  unfold kerr; rw [if_neg (by omega), if_neg (by omega)]
theorem kres_ok (p s : List Nat) (t z : Int) (h : kerr p s t z = 0) : kres p s t z = kder p s t.toNat z.toNat := by
  unfold kres; rw [if_pos h]
theorem kres_no (p s : List Nat) (t z : Int) (h : kerr p s t z ≠ 0) : kres p s t z = [] := by
  unfold kres; rw [if_neg h]
set_option maxRecDepth 100000 in
set_option maxHeartbeats 2000000 in
theorem kawake_any (w : World) (ht : TabP w) : Calls Tryd.prog 9 #[] w fun e w' => e = .returned (.bool true) ∧ Below w.heap.size w w' := by
  have w1 : Below w.heap.size w (w.alloc (.cells (row8 password).toArray 5 (8, 9))) := ((Below.refl _ _).alloc (Nat.le_refl _) (.cells (row8 password).toArray 5 (8, 9)))
  have w2 : Below w.heap.size w ((w.alloc (.cells (row8 password).toArray 5 (8, 9))).alloc (.cells (row8 salt).toArray 5 (4, 5))) := w1.alloc w1.size _
  have hke : kerr password salt 1 4 = 0 := kerr_ok _ _ _ _ (by decide) (by decide) (by omega) (by omega) (by omega) (by omega)
  have hkr : kres password salt 1 4 = [18, 15, 182, 207] := by rw [kres_ok _ _ _ _ hke]; exact kder_password
  have hd := kderive_any password salt 1 4 _ _ _ ((rd_const w password (small_bytes (by decide)) (by decide) 8 rfl _ rfl (8, 9)).alloc (.cells (row8 salt).toArray 5 (4, 5))) (rd_const (w.alloc (.cells (row8 password).toArray 5 (8, 9))) salt (small_bytes (by decide)) (by decide) 4 rfl (w.heap.size + 1) (by simp) (4, 5)) (ht.below w2)
  rw [hke, hkr] at hd
  have HD := Lib.hid hd
  have B2 := Lib.hid w2
  have HT := Lib.hid ht
  obtain ⟨KA, hKA⟩ : ∃ K, K = klabel (List.replicate 32 0) [97] := ⟨_, rfl⟩
  obtain ⟨KB, hKB⟩ : ∃ K, K = klabel (List.replicate 32 0) [98] := ⟨_, rfl⟩
  have bA : Bytes 32 KA := by rw [hKA]; exact sha_bytes _
  have bB : Bytes 32 KB := by rw [hKB]; exact sha_bytes _
  have hab : KA ≠ KB := by rw [hKA, hKB]; exact klabel_apart
  have hneq := fun w => run_neq_key bA bB w
  rw [decide_eq_false hab] at hneq
  have HLA := Lib.hid (show ∀ W, TabP W → Calls Tryd.prog 12 #[.agg #[.int .u8 0, .int .u8 0, .int .u8 0, .int .u8 0, .int .u8 0, .int .u8 0, .int .u8 0, .int .u8 0, .int .u8 0, .int .u8 0, .int .u8 0, .int .u8 0, .int .u8 0, .int .u8 0, .int .u8 0, .int .u8 0, .int .u8 0, .int .u8 0, .int .u8 0, .int .u8 0, .int .u8 0, .int .u8 0, .int .u8 0, .int .u8 0, .int .u8 0, .int .u8 0, .int .u8 0, .int .u8 0, .int .u8 0, .int .u8 0, .int .u8 0, .int .u8 0], .string ⟨#[97]⟩] W fun e w' => e = .returned (.agg (row8 KA).toArray) ∧ Below W.heap.size W w' from fun W hW => by rw [hKA]; exact klabel_any (List.replicate 32 0) (bytes_zero 32) ⟨#[97]⟩ (by decide) W hW)
  have HLB := Lib.hid (show ∀ W, TabP W → Calls Tryd.prog 12 #[.agg #[.int .u8 0, .int .u8 0, .int .u8 0, .int .u8 0, .int .u8 0, .int .u8 0, .int .u8 0, .int .u8 0, .int .u8 0, .int .u8 0, .int .u8 0, .int .u8 0, .int .u8 0, .int .u8 0, .int .u8 0, .int .u8 0, .int .u8 0, .int .u8 0, .int .u8 0, .int .u8 0, .int .u8 0, .int .u8 0, .int .u8 0, .int .u8 0, .int .u8 0, .int .u8 0, .int .u8 0, .int .u8 0, .int .u8 0, .int .u8 0, .int .u8 0, .int .u8 0], .string ⟨#[98]⟩] W fun e w' => e = .returned (.agg (row8 KB).toArray) ∧ Below W.heap.size W w' from fun W hW => by rw [hKB]; exact klabel_any (List.replicate 32 0) (bytes_zero 32) ⟨#[98]⟩ (by decide) W hW)
  clear hd w1 w2 hke hkr ht hKA hKB bA bB hab
  have kc := fun (w : World) (C : Array Value) (n c : Nat) => Lib.run_convert_bytes_const (P := Tryd.prog) w 22 5 C n c Tryd.underlying22 Tryd.underlying5
  have kc2 := fun (o : Obj) (C : Array Value) (n c : Nat) => Lib.run_convert_bytes_const (P := Tryd.prog) (w.alloc o) 22 5 C n c Tryd.underlying22 Tryd.underlying5
  have hsz : ∀ o : Obj, (w.alloc o).heap.size = w.heap.size + 1 := fun o => by simp
  simp only [hsz] at kc2
  clear hsz
  go_enter Tryd.func9, Tryd.ntmps9
  go_wp2_with (first
    | (go_at_call 10; (refine HD.out.mono ?_); rintro e w3 ⟨y, rfl, r3, b3⟩; obtain ⟨ay, cy, rfl, _⟩ := r3.shape; have hs3 : (convert 22 9 (.slice ay 4 cy)).run Tryd.prog w3 = .ok (.string ⟨#[18, 15, 182, 207]⟩) w3 := r3.str; have B3 := Lib.hid (B2.out.on b3); clear r3 b3)
    | (go_at_call 12; (with_reducible refine (HLA.out _ (HT.out.below B3.out)).mono ?_); rintro e w4 ⟨rfl, b4⟩; have B4 := Lib.hid (B3.out.on b4); clear b4)
    | (go_at_call 12; (with_reducible refine (HLB.out _ (HT.out.below B4.out)).mono ?_); rintro e w5 ⟨rfl, b5⟩; have B5 := Lib.hid (B4.out.on b5); clear b5))
  go_ret
  exact ⟨rfl, B5.out⟩
end Go.Proofs.YteklchmbeiclcaaDoor
