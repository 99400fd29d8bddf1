/- What every right program tells of three bytes. Own work. -/
import Derived.Test.YtaephclooajabaaDoorShaParts
import Derived.Test.YtaephclooajabaaDoorShaHexP
import Derived.Test.YtaephclooajabaaDoorShaParseP
import Derived.Lib.SlBytesConst
namespace Go.Proofs.YtaephclooajabaaDoor
open Go.ChangeShapes Go.WideShapes Go.ChangeAt Go.RowKit
open SM
theorem sha_len (l : List Nat) : (sha l).length = 32 := by
  show (out _).length = 32
  rw [← outK_all, outK_len]
theorem sha_bytes (l : List Nat) : Bytes 32 (sha l) := by
  refine ⟨sha_len l, fun k => ?_⟩
  show gb (out _) k < 256
  unfold out
  rw [gb_map]; split
  · exact Nat.mod_lt _ (by omega)
  · omega
theorem hex_abc : bstr (hex ((sha [97, 98, 99]).take 2)) = ⟨#[98, 97, 55, 56]⟩ := by
  rw [sha_abc]; rfl
/-- One part. -/
theorem rds_one {w : World} {x : Value} {l : List Nat} (h : Rd w x l) {b : Nat} (hb : b = w.heap.size) : Rds (w.alloc (.cells #[x] 23)) (.slice (some ⟨b, 0, none⟩) 1 1) [l] := by
  subst hb
  refine ⟨by simp, .inr ⟨_, 1, rfl, Nat.le_refl _, fun j l' hj => ?_⟩⟩
  cases j with
  | zero =>
    simp at hj; subst hj
    exact ⟨x, (Blk.new w 23 [x] _ rfl).cell 0 x rfl, h.alloc _⟩
  | succ j => simp at hj
theorem rd_abc (w : World) : Rd (w.alloc (.cells #[.int .u8 97, .int .u8 98, .int .u8 99] 5 (3, 4))) (.slice (some ⟨w.heap.size, 0, none⟩) 3 3) [97, 98, 99] := by
  refine ⟨fun k => ?_, by simp, .inr ⟨_, 3, rfl, Nat.le_refl _, fun j hj => ?_⟩⟩
  · match k with
    | 0 => decide
    | 1 => decide
    | 2 => decide
    | k + 3 => exact Nat.zero_lt_succ _
  · have hj' : j < 3 := hj
    rw [Addr.add_mid, World.cell?_alloc_mark]
    match j, hj' with
    | 0, _ => rfl
    | 1, _ => rfl
    | 2, _ => rfl
set_option maxRecDepth 100000 in
set_option maxHeartbeats 1000000 in
theorem awake_any (w : World) (ht : TabP w) : Calls Tryd.prog 13 #[] w fun e w' => e = .returned (.bool true) ∧ Below w.heap.size w w' := by
  have h1 := rds_one (rd_abc w) (b := w.heap.size + 1) (by simp)
  have b1 : Below w.heap.size w ((w.alloc (.cells #[.int .u8 97, .int .u8 98, .int .u8 99] 5 (3, 4))).alloc (.cells #[.slice (some ⟨w.heap.size, 0, none⟩) 3 3] 23)) := ((Below.refl _ _).alloc (Nat.le_refl _) _).alloc (by simp) _
  have hof := of_any [[97, 98, 99]] (by simp) _ _ h1 (ht.below b1)
  rw [show ([[97, 98, 99]] : List (List Nat)).flatten = [97, 98, 99] from rfl] at hof
  have s0 : (row8 (sha [97, 98, 99]))[0]? = some (.int .u8 186) := by rw [sha_abc]; rfl
  have s1 : (row8 (sha [97, 98, 99]))[1]? = some (.int .u8 120) := by rw [sha_abc]; rfl
  have s31 : (row8 (sha [97, 98, 99]))[31]? = some (.int .u8 173) := by rw [sha_abc]; rfl
  have hh := hex_abc
  have hb := sha_bytes [97, 98, 99]
  obtain ⟨S, hS⟩ : ∃ S, S = sha [97, 98, 99] := ⟨_, rfl⟩
  rw [← hS] at hof s0 s1 s31 hh hb
  have hhx : ∀ (W : World) (g : Nat), Blk W g 26 (row8 S) → Calls Tryd.prog 18 #[.slice (some ⟨g, 0, none⟩) 2 32] W fun e w' => e = .returned (.string ⟨#[98, 97, 55, 56]⟩) ∧ Below W.heap.size W w' := fun W g hW => by
    have hr := blk_rd hW hb.2 (n := 2) (cap := 32) (by rw [hb.1]; omega) (by omega) (by rw [hb.1]; omega)
    rw [← hh]
    exact hex_any (S.take 2) (by rw [List.length_take]; omega) _ W hr
  have HOF := Lib.hid hof
  have HHX := Lib.hid hhx
  have HS0 := Lib.hid s0
  have HS1 := Lib.hid s1
  have HS31 := Lib.hid s31
  have HB := Lib.hid hb
  have B1 := Lib.hid b1
  have H32 := Lib.hid (show (row8 S).length = 32 by rw [row8_len]; exact hb.1)
  clear h1 b1 hof s0 s1 s31 hh hb hhx hS ht
  have kc := fun (w : World) (C : Array Value) (n c : Nat) => Lib.run_convert_bytes_const (P := Tryd.prog) w 23 5 C n c Tryd.underlying23 Tryd.underlying5
  go_enter Tryd.func13, Tryd.ntmps13
  go_wp2_with (first
    | (go_at_call 11; refine HOF.out.mono ?_; rintro e w2 ⟨rfl, b2⟩; have B2 := Lib.hid (B1.out.on b2); clear b2)
    | (refine wpList_store_blk rfl 26 (.tmp 1) (.tmp 5) rfl w2.heap.size 0 (row8 S) rfl rfl 26 (row8 (List.replicate 32 0)) (Blk.new w2 26 (row8 (List.replicate 32 0)) _ rfl) (by rw [H32.out]; exact Nat.le_refl _) (by rw [H32.out]; exact infoS) (row8_one _) ?_; intro w3 b3 g3; rw [splice_all _ _ (by rw [H32.out]; rfl)] at b3; have c0 := b3.cell 0 _ HS0.out; have c1 := b3.cell 1 _ HS1.out; have c31 := b3.cell 31 _ HS31.out; have B3 := Lib.hid b3; have BB3 := Lib.hid ((B2.out.alloc B2.out.size (.cells (row8 (List.replicate 32 0)).toArray 26)).grown g3 (by have := B2.out.size; simp; omega) (fun k hk => by have := Option.some.inj hk; have := B2.out.size; omega)); clear b3 g3)
    | (go_at_call 18; refine (HHX.out _ _ B3.out).mono ?_; rintro e w4 ⟨rfl, b4⟩; have B4 := Lib.hid (BB3.out.on b4); clear b4))
  go_ret
  exact ⟨rfl, B4.out⟩
end Go.Proofs.YtaephclooajabaaDoor
