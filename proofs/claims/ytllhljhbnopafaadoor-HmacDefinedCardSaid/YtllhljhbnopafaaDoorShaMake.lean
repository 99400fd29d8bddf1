/- A Hash made, measured, forked: contracts. Own work. -/
import Derived.Test.YtllhljhbnopafaaDoorShaWrite
namespace Go.Proofs.YtllhljhbnopafaaDoor
open Go.ChangeShapes Go.WideShapes Go.ChangeAt Go.RowKit
open SM
theorem infoHash : (Tryd.prog.info? 60).map (·.size) = some 73 := by kernel_rfl
theorem hc_one (st o : List Nat) (n : Nat) : (hc st o n).toArray.all (·.oneCell') = true := by
  unfold hc row32 row8; simp [Value.oneCell']
theorem zeroHash (w : World) : (zeroValue 60).run Tryd.prog w = .ok (.agg (hc (List.replicate 8 0) (List.replicate 64 0) 0).toArray) w := by kernel_rfl
theorem new_any (w : World) : Calls Tryd.prog 25 #[] w fun e w' => e = .returned (.pointer (some ⟨w.heap.size, 0, none⟩)) ∧ Hs w' w.heap.size [] ∧ Below w.heap.size w w' := by
  go_enter Tryd.func25, Tryd.ntmps25
  have hz := zeroHash
  go_wp2_with fail
  go_ret
  exact ⟨rfl, ⟨h0, List.replicate 64 0, HV.start, Blk.new w 60 (hc h0 (List.replicate 64 0) 0) _ rfl⟩, (Below.refl _ _).alloc (Nat.le_refl _) _⟩
theorem fork_nil (w : World) : Calls Tryd.prog 24 #[.pointer none] w fun e w' => e = .returned (.pointer none) ∧ w' = w := by
  go_enter Tryd.func24, Tryd.ntmps24
  go_wp2_with fail
  go_ret
  exact ⟨rfl, rfl⟩
set_option maxHeartbeats 400000 in
theorem fork_any (g : Nat) (L : List Nat) (w : World) (hs : Hs w g L) : Calls Tryd.prog 24 #[.pointer (some ⟨g, 0, none⟩)] w fun e w' => e = .returned (.pointer (some ⟨w.heap.size, 0, none⟩)) ∧ Hs w' w.heap.size L ∧ Below w.heap.size w w' := by
  obtain ⟨st, o, hv, hb⟩ := hs
  obtain ⟨C, hC⟩ : ∃ C, C = hc st o L.length := ⟨_, rfl⟩
  have hl : C.length = 73 := by rw [hC]; exact hc_len hv.words.1 hv.open_.1 _
  have h1 : C.toArray.all (·.oneCell') = true := by rw [hC]; exact hc_one _ _ _
  rw [← hC] at hb
  have HC := Lib.hid hC
  have HL := Lib.hid hl
  have H1 := Lib.hid h1
  have HB := Lib.hid hb
  have HH := Lib.hid hv
  clear hC hl h1 hb hv
  obtain ⟨C0, hC0⟩ : ∃ C0, C0 = hc (List.replicate 8 0) (List.replicate 64 0) 0 := ⟨_, rfl⟩
  have hz : ∀ w, (zeroValue 60).run Tryd.prog w = .ok (.agg C0.toArray) w := by rw [hC0]; exact zeroHash
  have HL0 := Lib.hid (show C0.length = 73 by rw [hC0]; rfl)
  clear hC0
  go_enter Tryd.func24, Tryd.ntmps24
  go_wp2_with (first
    | (refine wpList_load_mid rfl 60 (.tmp 7) rfl g 0 rfl C _ HB.out.range Tryd.underlying60 rfl (by rw [HL.out]; exact infoHash) ?_)
    | (refine wpList_store_mid rfl 60 (.tmp 3) (.tmp 8) rfl w.heap.size 0 C.toArray rfl rfl ((Blk.new w 60 C0 _ rfl).there _ (by rw [List.size_toArray, HL.out, HL0.out])) (by rw [List.size_toArray, HL.out]; exact infoHash) H1.out ?_))
  go_ret
  have b := (Blk.new w 60 C0 _ rfl).whole C (by rw [HL.out, HL0.out])
  exact ⟨rfl, ⟨st, o, HH.out, by rw [← HC.out]; exact b⟩, below_setCells w.heap.size (Nat.le_refl _) C 0 _ ((Below.refl _ _).alloc (Nat.le_refl _) _)⟩
end Go.Proofs.YtllhljhbnopafaaDoor
