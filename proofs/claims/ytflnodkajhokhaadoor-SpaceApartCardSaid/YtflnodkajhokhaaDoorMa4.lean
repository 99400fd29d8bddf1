/- Texts of 1 subjects in one file: AesP. Own work. -/
import Derived.Test.YtflnodkajhokhaaDoorMa3
import Derived.Deep.DeepCutAuto
import Derived.Great.BuildSlice
import Derived.Test.YtflnodkajhokhaaDoorMa1
import Derived.Test.YtflnodkajhokhaaDoorMa2
section
namespace Go.Proofs.YtflnodkajhokhaaDoor
open Go.ChangeShapes Go.WideShapes Go.ChangeAt Go.RowKit
open AM FM
namespace AM
def word8 (f : Nat -> Nat) (t : Nat) : Nat := ((((((f (8 * t) * 256 + f (8 * t + 1)) * 256 + f (8 * t + 2)) * 256 + f (8 * t + 3)) * 256 + f (8 * t + 4)) * 256 + f (8 * t + 5)) * 256 + f (8 * t + 6)) * 256 + f (8 * t + 7)
def wtab : List Nat := (List.range 32).map (word8 box)
def wuntab : List Nat := (List.range 32).map (word8 unb)
theorem wbox_all : ((List.range 256).all fun b => gb wtab (b / 8) / 2 ^ (8 * (7 - b % 8)) % 256 == box b) = true := by decide +kernel
theorem wunb_all : ((List.range 256).all fun b => gb wuntab (b / 8) / 2 ^ (8 * (7 - b % 8)) % 256 == unb b) = true := by decide +kernel
theorem wbox (b : Nat) (h : b < 256) : gb wtab (b / 8) / 2 ^ (8 * (7 - b % 8)) % 256 = box b := by
  have k := List.all_eq_true.1 wbox_all b (by simpa using h)
  simpa using k
theorem wunb (b : Nat) (h : b < 256) : gb wuntab (b / 8) / 2 ^ (8 * (7 - b % 8)) % 256 = unb b := by
  have k := List.all_eq_true.1 wunb_all b (by simpa using h)
  simpa using k
end AM
def TabX (w : World) : Prop := ∀ t, t < 32 -> w.cell? ⟨1, t, none⟩ = some (.int .u64 ((gb wtab t : Nat) : Int))
theorem TabX.lt {w : World} (h : TabX w) : 1 < w.heap.size := World.block_lt_of_cell? w _ (h 0 (by omega))
theorem TabX.keep {w w' : World} (h : TabX w) (hk : w'.heap[1]? = w.heap[1]?) : TabX w' := fun t ht => by
  rw [World.cell?_of_block (w := w) hk]; exact h t ht
theorem TabX.below {w w' : World} (h : TabX w) (hb : Below w.heap.size w w') : TabX w' := h.keep (hb.block _ h.lt)
def TabU (w : World) : Prop := ∀ t, t < 32 -> w.cell? ⟨2, t, none⟩ = some (.int .u64 ((gb wuntab t : Nat) : Int))
theorem TabU.lt {w : World} (h : TabU w) : 2 < w.heap.size := World.block_lt_of_cell? w _ (h 0 (by omega))
theorem TabU.keep {w w' : World} (h : TabU w) (hk : w'.heap[2]? = w.heap[2]?) : TabU w' := fun t ht => by
  rw [World.cell?_of_block (w := w) hk]; exact h t ht
theorem TabU.below {w w' : World} (h : TabU w) (hb : Below w.heap.size w w') : TabU w' := h.keep (hb.block _ h.lt)
theorem pow_word (V k x : Nat) (h : V / 2 ^ k % 256 = x) : (V : Int) / 2 ^ k % 256 = (x : Int) := by rw [<- h, Int.natCast_emod, Int.natCast_ediv, Int.natCast_pow]; rfl
theorem sbox_eq (b : Nat) (hb : b < 256) (w : World) (hx : TabX w) :
    Calls Tryd.prog 81 #[.int .u8 (b : Int)] w fun e w' => e = .returned (.int .u8 ((box b : Nat) : Int)) /\ w' = w := by
  have c := hx (b / 8) (by omega)
  have e := wbox b hb
  obtain ⟨V, hV⟩ : ∃ V, gb wtab (b / 8) = V := ⟨_, rfl⟩
  obtain ⟨r, hr⟩ : ∃ r, b % 8 = r := ⟨_, rfl⟩
  rw [hV] at c e
  rw [hr] at e
  have E := Lib.hid (pow_word V _ _ e)
  have l1 : (0 : Int) <= (b : Int) / 8 := by omega
  have l2 : (b : Int) / 8 < 32 := by omega
  have l3 : ((b : Int) / 8).toNat = b / 8 := by omega
  have l4 : (b : Int) % 8 = (r : Int) := by omega
  have l5 : (r : Int) <= 7 := by omega
  clear e hV hr
  go_enter Tryd.func81, Tryd.ntmps81
  go_wp2_with fail
  go_ret
  exact ⟨congrArg (fun x => Ending.returned (Value.int .u8 x)) E.out, rfl⟩
theorem unbox_eq (b : Nat) (hb : b < 256) (w : World) (hx : TabU w) :
    Calls Tryd.prog 91 #[.int .u8 (b : Int)] w fun e w' => e = .returned (.int .u8 ((unb b : Nat) : Int)) /\ w' = w := by
  have c := hx (b / 8) (by omega)
  have e := wunb b hb
  obtain ⟨V, hV⟩ : ∃ V, gb wuntab (b / 8) = V := ⟨_, rfl⟩
  obtain ⟨r, hr⟩ : ∃ r, b % 8 = r := ⟨_, rfl⟩
  rw [hV] at c e
  rw [hr] at e
  have E := Lib.hid (pow_word V _ _ e)
  have l1 : (0 : Int) <= (b : Int) / 8 := by omega
  have l2 : (b : Int) / 8 < 32 := by omega
  have l3 : ((b : Int) / 8).toNat = b / 8 := by omega
  have l4 : (b : Int) % 8 = (r : Int) := by omega
  have l5 : (r : Int) <= 7 := by omega
  clear e hV hr
  go_enter Tryd.func91, Tryd.ntmps91
  go_wp2_with fail
  go_ret
  exact ⟨congrArg (fun x => Ending.returned (Value.int .u8 x)) E.out, rfl⟩
theorem sbox_any (b : Nat) (hb : b < 256) (w : World) (hx : TabX w) :
    Calls Tryd.prog 81 #[.int .u8 (b : Int)] w fun e w' => e = .returned (.int .u8 ((box b : Nat) : Int)) /\ Below w.heap.size w w' :=
  (sbox_eq b hb w hx).mono fun _ _ h => ⟨h.1, by rw [h.2]; exact Below.refl _ _⟩
theorem info8a : (Tryd.prog.info? 5).map (·.size) = some 1 := by kernel_rfl
theorem agg8a : ∀ w, (isAgg 5).run Tryd.prog w = .ok false w := fun _ => by kernel_rfl
theorem dbl_any (a : Nat) (h : a < 256) (w : World) : Calls Tryd.prog 80 #[.int .u8 (a : Int)] w fun e w' => e = .returned (.int .u8 ((mul 2 a : Nat) : Int)) /\ w' = w := by
  rw [<- xt_mul a h]
  by_cases h2 : 128 <= a
  . have hI : (a : Int) / 128 = 1 := by omega
    have hx := xt_high a h h2
    go_enter Tryd.func80, Tryd.ntmps80
    go_wp2_with fail
    go_ret
    exact ⟨rfl, rfl⟩
  . have hI : (a : Int) / 128 = 0 := by omega
    rw [xt_low a (by omega)]
    have hx : bits .xor .u8 ((a : Int) * 2) 0 = ((2 * a : Nat) : Int) := by
      rw [show (a : Int) * 2 = ((2 * a : Nat) : Int) by omega]
      have h0 := u8_xor_nat (2 * a) 0 (by omega) (by omega)
      rw [Nat.xor_zero] at h0
      exact h0
    go_enter Tryd.func80, Tryd.ntmps80
    go_wp2_with fail
    go_ret
    exact ⟨rfl, rfl⟩
end Go.Proofs.YtflnodkajhokhaaDoor
namespace Go.Proofs.YtflnodkajhokhaaDoor
open Go.ChangeShapes Go.WideShapes Go.ChangeAt Go.RowKit
open AM FM
namespace AM
def mpTo (f : Nat -> Nat) (s : List Nat) (n : Nat) : List Nat := row fun i => if i < n then f (gb s i) else gb s i
def mpA (f : Nat -> Nat) (s : List Nat) : List Nat := row fun i => f (gb s i)
theorem mpTo_len (f : Nat -> Nat) (s : List Nat) (n : Nat) : (mpTo f s n).length = 16 := row_len _
theorem mpTo_get (f : Nat -> Nat) (s : List Nat) (n k : Nat) (h : k < 16) : gb (mpTo f s n) k = if k < n then f (gb s k) else gb s k := row_get _ _ h
theorem mpTo_zero (f : Nat -> Nat) {s : List Nat} (hs : s.length = 16) : mpTo f s 0 = s :=
  bytes_ext (n := 16) (mpTo_len _ _ _) hs fun k hk => by rw [mpTo_get _ _ _ _ hk, if_neg (by omega)]
theorem mpTo_all (f : Nat -> Nat) (s : List Nat) : mpTo f s 16 = mpA f s :=
  bytes_ext (n := 16) (mpTo_len _ _ _) (row_len _) fun k hk => by
    rw [mpTo_get _ _ _ _ hk, if_pos hk]; unfold mpA; rw [row_get _ _ hk]
theorem mpTo_step (f : Nat -> Nat) (s : List Nat) (k : Nat) (hk : k < 16) : (mpTo f s k).set k (f (gb s k)) = mpTo f s (k + 1) :=
  bytes_ext (n := 16) (by rw [List.length_set, mpTo_len]) (mpTo_len _ _ _) fun j hj => by
    rw [gb_set _ _ _ _ (by rw [mpTo_len]; exact hk), mpTo_get _ _ _ _ hj, mpTo_get _ _ _ _ hj]
    by_cases e : k = j
    . subst e; rw [if_pos rfl, if_pos (by omega)]
    . rw [if_neg e]
      by_cases h : j < k
      . rw [if_pos h, if_pos (by omega)]
      . rw [if_neg h, if_neg (by omega)]
theorem mpA_bytes (f : Nat -> Nat) (h : ∀ x, f x < 256) (s : List Nat) : Bytes 16 (mpA f s) := row_bytes _ fun _ _ => h _
def shA (s : List Nat) : List Nat := row fun i => gb s (4 * ((i / 4 + i % 4) % 4) + i % 4)
def shB (s : List Nat) : List Nat := row fun i => gb s (4 * ((i / 4 + 4 - i % 4) % 4) + i % 4)
theorem shA_lit (s : List Nat) : shA s = [gb s 0, gb s 5, gb s 10, gb s 15, gb s 4, gb s 9, gb s 14, gb s 3, gb s 8, gb s 13, gb s 2, gb s 7, gb s 12, gb s 1, gb s 6, gb s 11] := rfl
theorem shB_lit (s : List Nat) : shB s = [gb s 0, gb s 13, gb s 10, gb s 7, gb s 4, gb s 1, gb s 14, gb s 11, gb s 8, gb s 5, gb s 2, gb s 15, gb s 12, gb s 9, gb s 6, gb s 3] := rfl
theorem shA_bytes {s : List Nat} (h : Bytes 16 s) : Bytes 16 (shA s) := row_bytes _ fun _ _ => h.2 _
theorem shB_bytes {s : List Nat} (h : Bytes 16 s) : Bytes 16 (shB s) := row_bytes _ fun _ _ => h.2 _
theorem ss_said (s : List Nat) : shA (mpA box s) = ss s :=
  bytes_ext (n := 16) (row_len _) (row_len _) fun k hk => by
    unfold shA ss mpA
    rw [row_get _ _ hk, row_get _ _ hk, row_get _ _ (by omega)]
theorem iss_said (s : List Nat) : mpA unb (shB s) = iss s :=
  bytes_ext (n := 16) (row_len _) (row_len _) fun k hk => by
    unfold shB iss mpA
    rw [row_get _ _ hk, row_get _ _ hk, row_get _ _ hk]
end AM
set_option maxRecDepth 100000 in
set_option maxHeartbeats 1000000 in
theorem keyed_any (a b : List Nat) (ha : Bytes 16 a) (hb : Bytes 16 b) (w : World) :
    Calls Tryd.prog 61 #[.agg (row8 a).toArray, .agg (row8 b).toArray] w fun e w' => e = .returned (.agg (row8 (ax a b)).toArray) /\ Below w.heap.size w w' := by
  obtain ⟨C0, hC0⟩ : ∃ C0, C0 = row8 (List.replicate 16 0) := ⟨_, rfl⟩
  have hz : ∀ w, (zeroValue 96).run Tryd.prog w = .ok (.agg C0.toArray) w := by rw [hC0]; exact zero16
  have hc0 : C0.length = 16 := by rw [hC0, row8_len, List.length_replicate]
  have w1 := (Below.refl w.heap.size w).alloc (Nat.le_refl _) (.cells (row8 a).toArray 96)
  have w2 := w1.alloc w1.size (.cells (row8 b).toArray 96)
  have w3 := w2.alloc w2.size (.cells C0.toArray 96)
  have N0 := Lib.hid (((Blk.new w 96 (row8 a) _ rfl).alloc (.cells (row8 b).toArray 96)).alloc (.cells C0.toArray 96))
  have N1 := Lib.hid ((Blk.new (w.alloc (.cells (row8 a).toArray 96)) 96 (row8 b) (w.heap.size + 1) (by simp)).alloc (.cells C0.toArray 96))
  have N2 := Lib.hid (Blk.new ((w.alloc (.cells (row8 a).toArray 96)).alloc (.cells (row8 b).toArray 96)) 96 C0 (w.heap.size + 1 + 1) (by simp))
  have W3 := Lib.hid w3
  have HA := Lib.hid ha
  have HB := Lib.hid hb
  obtain ⟨M, hM⟩ : ∃ M, M = ax a b := ⟨_, rfl⟩
  rw [<- hM]
  have HM := Lib.hid hM
  have M16 := Lib.hid (show (row8 M).length = 16 by rw [hM, row8_len]; exact row_len _)
  have B16 := Lib.hid (show (row8 b).length = 16 by rw [row8_len]; exact hb.1)
  clear hC0 w1 w2 w3 ha hb hM
  go_enter Tryd.func61, Tryd.ntmps61
  go_wp2_with (refine wpList_load_mid rfl 96 (.tmp 3) rfl (w.heap.size + 1) 0 rfl (row8 b) _ N1.out.range Tryd.underlying96 rfl (by rw [B16.out]; exact info16) ?_)
  go_loopw [8] (fun i wr => ∃ k : Nat, k <= 16 /\ i = .int .i64 (k : Int) /\ Blk wr w.heap.size 96 (row8 (axTo a b k)) /\ Blk wr (w.heap.size + 1 + 1) 96 C0 /\ Below w.heap.size w wr) (fun i _ => 16 - (intOf i).toNat)
  case atStart => exact ⟨0, Nat.zero_le _, rfl, by rw [axTo_zero HA.out.1]; exact N0.out, N2.out, W3.out⟩
  case round =>
    clear N0 N1 N2 W3
    obtain ⟨k, hk, rfl, b0, b2, bb⟩ := hrel
    by_cases hlt : k < 16
    . have c0 := b0.cell k _ (row8_val _ k (by rw [axTo_len]; exact hlt))
      rw [axTo_get _ _ _ _ hlt, if_neg (by omega)] at c0
      have hix := run_index_row 96 5 16 (row8 b).toArray k (.int .u8 (gb b k)) Tryd.underlying96 hlt info8a agg8a (row8_get b k (by rw [HB.out.1]; exact hlt))
      have f0 := b0.free k
      have hxr := u8_xor_nat (gb a k) (gb b k) (HA.out.2 k) (HB.out.2 k)
      have B0 := Lib.hid b0
      have B2 := Lib.hid b2
      have BB := Lib.hid bb
      clear b0 b2 bb
      go_wp2_with fail
      have nb0 := B0.out.set k (.int .u8 ((gb a k ^^^ gb b k : Nat) : Int))
      rw [row8_set, axTo_step _ _ _ hlt] at nb0
      exact ⟨⟨k + 1, by omega, by go_num, nb0, B2.out.other ⟨w.heap.size, k, none⟩ _ (by simp <;> omega), BB.out.setCell (p := ⟨w.heap.size, k, none⟩) (Nat.le_refl _) _⟩, by simp [intOf]; omega⟩
    . obtain rfl : k = 16 := by omega
      rw [axTo_all, <- HM.out] at b0
      have B0 := Lib.hid b0
      have B2 := Lib.hid b2
      have BB := Lib.hid bb
      clear b0 b2 bb
      go_wp2_with (first
        | (refine wpList_load_mid rfl 96 (.tmp 2) rfl w.heap.size 0 rfl (row8 M) _ B0.out.range Tryd.underlying96 rfl (by rw [M16.out]; exact info16) ?_)
        | (refine wpList_store_mid rfl 96 (.tmp 4) (.tmp 19) rfl (w.heap.size + 1 + 1) 0 (row8 M).toArray rfl rfl (B2.out.there _ (by rw [List.size_toArray, M16.out, hc0])) (by rw [List.size_toArray, M16.out]; exact info16) (row8_one _) ?_))
      have fin := B2.out.whole (row8 M) (by rw [M16.out, hc0])
      exact bodyPost_ret (v := .agg (row8 M).toArray) (results_mid rfl _ _ (w.heap.size + 1 + 1) (row8 M) _ rfl fin.range Tryd.underlying96 rfl (by rw [M16.out]; exact info16)) rfl ⟨rfl, below_setCells (w.heap.size + 1 + 1) (by omega) _ 0 _ BB.out⟩
set_option maxRecDepth 100000 in
set_option maxHeartbeats 1000000 in
theorem boxed_any (s : List Nat) (hs : Bytes 16 s) (w : World) (hx : TabX w) :
    Calls Tryd.prog 64 #[.agg (row8 s).toArray] w fun e w' => e = .returned (.agg (row8 (mpA box s)).toArray) /\ Below w.heap.size w w' := by
  obtain ⟨C0, hC0⟩ : ∃ C0, C0 = row8 (List.replicate 16 0) := ⟨_, rfl⟩
  have hz : ∀ w, (zeroValue 96).run Tryd.prog w = .ok (.agg C0.toArray) w := by rw [hC0]; exact zero16
  have hc0 : C0.length = 16 := by rw [hC0, row8_len, List.length_replicate]
  have w1 := (Below.refl w.heap.size w).alloc (Nat.le_refl _) (.cells (row8 s).toArray 96)
  have w2 := w1.alloc w1.size (.cells C0.toArray 96)
  have N0 := Lib.hid ((Blk.new w 96 (row8 s) _ rfl).alloc (.cells C0.toArray 96))
  have N1 := Lib.hid (Blk.new (w.alloc (.cells (row8 s).toArray 96)) 96 C0 (w.heap.size + 1) (by simp))
  have W2 := Lib.hid w2
  have HS := Lib.hid hs
  have HX := Lib.hid hx
  obtain ⟨M, hM⟩ : ∃ M, M = mpA box s := ⟨_, rfl⟩
  rw [<- hM]
  have HM := Lib.hid hM
  have M16 := Lib.hid (show (row8 M).length = 16 by rw [hM, row8_len]; exact row_len _)
  have S16 := Lib.hid (show (row8 s).length = 16 by rw [row8_len]; exact hs.1)
  clear hC0 w1 w2 hs hx hM
  go_enter Tryd.func64, Tryd.ntmps64
  go_wp2_with (refine wpList_load_mid rfl 96 (.tmp 1) rfl w.heap.size 0 rfl (row8 s) _ N0.out.range Tryd.underlying96 rfl (by rw [S16.out]; exact info16) ?_)
  go_loopw [6] (fun i wr => ∃ k : Nat, k <= 16 /\ i = .int .i64 (k : Int) /\ Blk wr w.heap.size 96 (row8 (mpTo box s k)) /\ Blk wr (w.heap.size + 1) 96 C0 /\ Below w.heap.size w wr) (fun i _ => 16 - (intOf i).toNat)
  case atStart => exact ⟨0, Nat.zero_le _, rfl, by rw [mpTo_zero _ HS.out.1]; exact N0.out, N1.out, W2.out⟩
  case round =>
    clear N0 N1 W2
    obtain ⟨k, hk, rfl, b0, b1, bb⟩ := hrel
    by_cases hlt : k < 16
    . have c0 := b0.cell k _ (row8_val _ k (by rw [mpTo_len]; exact hlt))
      have hix := run_index_row 96 5 16 (row8 s).toArray k (.int .u8 (gb s k)) Tryd.underlying96 hlt info8a agg8a (row8_get s k (by rw [HS.out.1]; exact hlt))
      have f0 := b0.free k
      have HC := Lib.hid (sbox_eq (gb s k) (HS.out.2 k) wr (HX.out.below bb))
      have B0 := Lib.hid b0
      have B1 := Lib.hid b1
      have BB := Lib.hid bb
      clear b0 b1 bb
      go_wp2_with (go_at_call 81; (with_reducible refine HC.out.mono ?_); rintro e w4 ⟨rfl, rfl⟩)
      have nb0 := B0.out.set k (.int .u8 ((box (gb s k) : Nat) : Int))
      rw [row8_set, mpTo_step _ _ _ hlt] at nb0
      exact ⟨⟨k + 1, by omega, by go_num, nb0, B1.out.other ⟨w.heap.size, k, none⟩ _ (by simp <;> omega), BB.out.setCell (p := ⟨w.heap.size, k, none⟩) (Nat.le_refl _) _⟩, by simp [intOf]; omega⟩
    . obtain rfl : k = 16 := by omega
      rw [mpTo_all, <- HM.out] at b0
      have B0 := Lib.hid b0
      have B1 := Lib.hid b1
      have BB := Lib.hid bb
      clear b0 b1 bb
      go_wp2_with (first
        | (refine wpList_load_mid rfl 96 (.tmp 1) rfl w.heap.size 0 rfl (row8 M) _ B0.out.range Tryd.underlying96 rfl (by rw [M16.out]; exact info16) ?_)
        | (refine wpList_store_mid rfl 96 (.tmp 2) (.tmp 15) rfl (w.heap.size + 1) 0 (row8 M).toArray rfl rfl (B1.out.there _ (by rw [List.size_toArray, M16.out, hc0])) (by rw [List.size_toArray, M16.out]; exact info16) (row8_one _) ?_))
      have fin := B1.out.whole (row8 M) (by rw [M16.out, hc0])
      exact bodyPost_ret (v := .agg (row8 M).toArray) (results_mid rfl _ _ (w.heap.size + 1) (row8 M) _ rfl fin.range Tryd.underlying96 rfl (by rw [M16.out]; exact info16)) rfl ⟨rfl, below_setCells (w.heap.size + 1) (by omega) _ 0 _ BB.out⟩
set_option maxRecDepth 100000 in
set_option maxHeartbeats 1000000 in
theorem unboxed_any (s : List Nat) (hs : Bytes 16 s) (w : World) (hx : TabU w) :
    Calls Tryd.prog 82 #[.agg (row8 s).toArray] w fun e w' => e = .returned (.agg (row8 (mpA unb s)).toArray) /\ Below w.heap.size w w' := by
  obtain ⟨C0, hC0⟩ : ∃ C0, C0 = row8 (List.replicate 16 0) := ⟨_, rfl⟩
  have hz : ∀ w, (zeroValue 96).run Tryd.prog w = .ok (.agg C0.toArray) w := by rw [hC0]; exact zero16
  have hc0 : C0.length = 16 := by rw [hC0, row8_len, List.length_replicate]
  have w1 := (Below.refl w.heap.size w).alloc (Nat.le_refl _) (.cells (row8 s).toArray 96)
  have w2 := w1.alloc w1.size (.cells C0.toArray 96)
  have N0 := Lib.hid ((Blk.new w 96 (row8 s) _ rfl).alloc (.cells C0.toArray 96))
  have N1 := Lib.hid (Blk.new (w.alloc (.cells (row8 s).toArray 96)) 96 C0 (w.heap.size + 1) (by simp))
  have W2 := Lib.hid w2
  have HS := Lib.hid hs
  have HX := Lib.hid hx
  obtain ⟨M, hM⟩ : ∃ M, M = mpA unb s := ⟨_, rfl⟩
  rw [<- hM]
  have HM := Lib.hid hM
  have M16 := Lib.hid (show (row8 M).length = 16 by rw [hM, row8_len]; exact row_len _)
  have S16 := Lib.hid (show (row8 s).length = 16 by rw [row8_len]; exact hs.1)
  clear hC0 w1 w2 hs hx hM
  go_enter Tryd.func82, Tryd.ntmps82
  go_wp2_with (refine wpList_load_mid rfl 96 (.tmp 1) rfl w.heap.size 0 rfl (row8 s) _ N0.out.range Tryd.underlying96 rfl (by rw [S16.out]; exact info16) ?_)
  go_loopw [6] (fun i wr => ∃ k : Nat, k <= 16 /\ i = .int .i64 (k : Int) /\ Blk wr w.heap.size 96 (row8 (mpTo unb s k)) /\ Blk wr (w.heap.size + 1) 96 C0 /\ Below w.heap.size w wr) (fun i _ => 16 - (intOf i).toNat)
  case atStart => exact ⟨0, Nat.zero_le _, rfl, by rw [mpTo_zero _ HS.out.1]; exact N0.out, N1.out, W2.out⟩
  case round =>
    clear N0 N1 W2
    obtain ⟨k, hk, rfl, b0, b1, bb⟩ := hrel
    by_cases hlt : k < 16
    . have c0 := b0.cell k _ (row8_val _ k (by rw [mpTo_len]; exact hlt))
      have hix := run_index_row 96 5 16 (row8 s).toArray k (.int .u8 (gb s k)) Tryd.underlying96 hlt info8a agg8a (row8_get s k (by rw [HS.out.1]; exact hlt))
      have f0 := b0.free k
      have HC := Lib.hid (unbox_eq (gb s k) (HS.out.2 k) wr (HX.out.below bb))
      have B0 := Lib.hid b0
      have B1 := Lib.hid b1
      have BB := Lib.hid bb
      clear b0 b1 bb
      go_wp2_with (go_at_call 91; (with_reducible refine HC.out.mono ?_); rintro e w4 ⟨rfl, rfl⟩)
      have nb0 := B0.out.set k (.int .u8 ((unb (gb s k) : Nat) : Int))
      rw [row8_set, mpTo_step _ _ _ hlt] at nb0
      exact ⟨⟨k + 1, by omega, by go_num, nb0, B1.out.other ⟨w.heap.size, k, none⟩ _ (by simp <;> omega), BB.out.setCell (p := ⟨w.heap.size, k, none⟩) (Nat.le_refl _) _⟩, by simp [intOf]; omega⟩
    . obtain rfl : k = 16 := by omega
      rw [mpTo_all, <- HM.out] at b0
      have B0 := Lib.hid b0
      have B1 := Lib.hid b1
      have BB := Lib.hid bb
      clear b0 b1 bb
      go_wp2_with (first
        | (refine wpList_load_mid rfl 96 (.tmp 1) rfl w.heap.size 0 rfl (row8 M) _ B0.out.range Tryd.underlying96 rfl (by rw [M16.out]; exact info16) ?_)
        | (refine wpList_store_mid rfl 96 (.tmp 2) (.tmp 15) rfl (w.heap.size + 1) 0 (row8 M).toArray rfl rfl (B1.out.there _ (by rw [List.size_toArray, M16.out, hc0])) (by rw [List.size_toArray, M16.out]; exact info16) (row8_one _) ?_))
      have fin := B1.out.whole (row8 M) (by rw [M16.out, hc0])
      exact bodyPost_ret (v := .agg (row8 M).toArray) (results_mid rfl _ _ (w.heap.size + 1) (row8 M) _ rfl fin.range Tryd.underlying96 rfl (by rw [M16.out]; exact info16)) rfl ⟨rfl, below_setCells (w.heap.size + 1) (by omega) _ 0 _ BB.out⟩
set_option maxRecDepth 100000 in
set_option maxHeartbeats 4000000 in
theorem shifted_any (s : List Nat) (hs : Bytes 16 s) (w : World) :
    Calls Tryd.prog 63 #[.agg (row8 s).toArray] w fun e w' => e = .returned (.agg (row8 (shA s)).toArray) /\ Below w.heap.size w w' := by
  obtain ⟨C0, hC0⟩ : ∃ C0, C0 = row8 (List.replicate 16 0) := ⟨_, rfl⟩
  have hz : ∀ w, (zeroValue 96).run Tryd.prog w = .ok (.agg C0.toArray) w := by rw [hC0]; exact zero16
  have hc0 : C0.length = 16 := by rw [hC0, row8_len, List.length_replicate]
  have w1 := (Below.refl w.heap.size w).alloc (Nat.le_refl _) (.cells (row8 s).toArray 96)
  have w2 := w1.alloc w1.size (.cells C0.toArray 96)
  have N0 := Lib.hid ((Blk.new w 96 (row8 s) _ rfl).alloc (.cells C0.toArray 96))
  have N1 := Lib.hid (Blk.new (w.alloc (.cells (row8 s).toArray 96)) 96 C0 (w.heap.size + 1) (by simp))
  have W2 := Lib.hid w2
  have HS := Lib.hid hs
  rw [shA_lit]
  have c0 := N0.out.cell 0 _ (row8_val s 0 (by rw [HS.out.1]; decide))
  have c1 := N0.out.cell 1 _ (row8_val s 1 (by rw [HS.out.1]; decide))
  have c2 := N0.out.cell 2 _ (row8_val s 2 (by rw [HS.out.1]; decide))
  have c3 := N0.out.cell 3 _ (row8_val s 3 (by rw [HS.out.1]; decide))
  have c4 := N0.out.cell 4 _ (row8_val s 4 (by rw [HS.out.1]; decide))
  have c5 := N0.out.cell 5 _ (row8_val s 5 (by rw [HS.out.1]; decide))
  have c6 := N0.out.cell 6 _ (row8_val s 6 (by rw [HS.out.1]; decide))
  have c7 := N0.out.cell 7 _ (row8_val s 7 (by rw [HS.out.1]; decide))
  have c8 := N0.out.cell 8 _ (row8_val s 8 (by rw [HS.out.1]; decide))
  have c9 := N0.out.cell 9 _ (row8_val s 9 (by rw [HS.out.1]; decide))
  have c10 := N0.out.cell 10 _ (row8_val s 10 (by rw [HS.out.1]; decide))
  have c11 := N0.out.cell 11 _ (row8_val s 11 (by rw [HS.out.1]; decide))
  have c12 := N0.out.cell 12 _ (row8_val s 12 (by rw [HS.out.1]; decide))
  have c13 := N0.out.cell 13 _ (row8_val s 13 (by rw [HS.out.1]; decide))
  have c14 := N0.out.cell 14 _ (row8_val s 14 (by rw [HS.out.1]; decide))
  have c15 := N0.out.cell 15 _ (row8_val s 15 (by rw [HS.out.1]; decide))
  obtain ⟨x0, hx0⟩ : ∃ x, x = gb s 0 := ⟨_, rfl⟩
  rw [<- hx0] at c0 ⊢
  obtain ⟨x1, hx1⟩ : ∃ x, x = gb s 1 := ⟨_, rfl⟩
  rw [<- hx1] at c1 ⊢
  obtain ⟨x2, hx2⟩ : ∃ x, x = gb s 2 := ⟨_, rfl⟩
  rw [<- hx2] at c2 ⊢
  obtain ⟨x3, hx3⟩ : ∃ x, x = gb s 3 := ⟨_, rfl⟩
  rw [<- hx3] at c3 ⊢
  obtain ⟨x4, hx4⟩ : ∃ x, x = gb s 4 := ⟨_, rfl⟩
  rw [<- hx4] at c4 ⊢
  obtain ⟨x5, hx5⟩ : ∃ x, x = gb s 5 := ⟨_, rfl⟩
  rw [<- hx5] at c5 ⊢
  obtain ⟨x6, hx6⟩ : ∃ x, x = gb s 6 := ⟨_, rfl⟩
  rw [<- hx6] at c6 ⊢
  obtain ⟨x7, hx7⟩ : ∃ x, x = gb s 7 := ⟨_, rfl⟩
  rw [<- hx7] at c7 ⊢
  obtain ⟨x8, hx8⟩ : ∃ x, x = gb s 8 := ⟨_, rfl⟩
  rw [<- hx8] at c8 ⊢
  obtain ⟨x9, hx9⟩ : ∃ x, x = gb s 9 := ⟨_, rfl⟩
  rw [<- hx9] at c9 ⊢
  obtain ⟨x10, hx10⟩ : ∃ x, x = gb s 10 := ⟨_, rfl⟩
  rw [<- hx10] at c10 ⊢
  obtain ⟨x11, hx11⟩ : ∃ x, x = gb s 11 := ⟨_, rfl⟩
  rw [<- hx11] at c11 ⊢
  obtain ⟨x12, hx12⟩ : ∃ x, x = gb s 12 := ⟨_, rfl⟩
  rw [<- hx12] at c12 ⊢
  obtain ⟨x13, hx13⟩ : ∃ x, x = gb s 13 := ⟨_, rfl⟩
  rw [<- hx13] at c13 ⊢
  obtain ⟨x14, hx14⟩ : ∃ x, x = gb s 14 := ⟨_, rfl⟩
  rw [<- hx14] at c14 ⊢
  obtain ⟨x15, hx15⟩ : ∃ x, x = gb s 15 := ⟨_, rfl⟩
  rw [<- hx15] at c15 ⊢
  obtain ⟨M, hM⟩ : ∃ M, M = [x0, x5, x10, x15, x4, x9, x14, x3, x8, x13, x2, x7, x12, x1, x6, x11] := ⟨_, rfl⟩
  rw [<- hM]
  have M16 := Lib.hid (show (row8 M).length = 16 by rw [hM]; rfl)
  have HM := Lib.hid (show (row8 M).toArray = #[.int .u8 (x0 : Int), .int .u8 (x5 : Int), .int .u8 (x10 : Int), .int .u8 (x15 : Int), .int .u8 (x4 : Int), .int .u8 (x9 : Int), .int .u8 (x14 : Int), .int .u8 (x3 : Int), .int .u8 (x8 : Int), .int .u8 (x13 : Int), .int .u8 (x2 : Int), .int .u8 (x7 : Int), .int .u8 (x12 : Int), .int .u8 (x1 : Int), .int .u8 (x6 : Int), .int .u8 (x11 : Int)] by rw [hM]; rfl)
  clear hC0 w1 w2 hs hM hx0 hx1 hx2 hx3 hx4 hx5 hx6 hx7 hx8 hx9 hx10 hx11 hx12 hx13 hx14 hx15
  go_enter Tryd.func63, Tryd.ntmps63
  go_wp2_with (first
    | (refine wpList_buildTo rfl 96 _ rfl (some 35) rfl #[.int .u8 (x0 : Int), .int .u8 (x5 : Int), .int .u8 (x10 : Int), .int .u8 (x15 : Int), .int .u8 (x4 : Int), .int .u8 (x9 : Int), .int .u8 (x14 : Int), .int .u8 (x3 : Int), .int .u8 (x8 : Int), .int .u8 (x13 : Int), .int .u8 (x2 : Int), .int .u8 (x7 : Int), .int .u8 (x12 : Int), .int .u8 (x1 : Int), .int .u8 (x6 : Int), .int .u8 (x11 : Int)] (by kernel_rfl) ?_; rw [<- HM.out])
    | (refine wpList_store_mid rfl 96 (.tmp 2) (.tmp 35) rfl (w.heap.size + 1) 0 (row8 M).toArray rfl rfl (N1.out.there _ (by rw [List.size_toArray, M16.out, hc0])) (by rw [List.size_toArray, M16.out]; exact info16) (row8_one _) ?_))
  have fin := N1.out.whole (row8 M) (by rw [M16.out, hc0])
  exact bodyPost_ret (v := .agg (row8 M).toArray) (results_mid rfl _ _ (w.heap.size + 1) (row8 M) _ rfl fin.range Tryd.underlying96 rfl (by rw [M16.out]; exact info16)) rfl ⟨rfl, below_setCells (w.heap.size + 1) (by omega) _ 0 _ W2.out⟩
set_option maxRecDepth 100000 in
set_option maxHeartbeats 4000000 in
theorem unshifted_any (s : List Nat) (hs : Bytes 16 s) (w : World) :
    Calls Tryd.prog 83 #[.agg (row8 s).toArray] w fun e w' => e = .returned (.agg (row8 (shB s)).toArray) /\ Below w.heap.size w w' := by
  obtain ⟨C0, hC0⟩ : ∃ C0, C0 = row8 (List.replicate 16 0) := ⟨_, rfl⟩
  have hz : ∀ w, (zeroValue 96).run Tryd.prog w = .ok (.agg C0.toArray) w := by rw [hC0]; exact zero16
  have hc0 : C0.length = 16 := by rw [hC0, row8_len, List.length_replicate]
  have w1 := (Below.refl w.heap.size w).alloc (Nat.le_refl _) (.cells (row8 s).toArray 96)
  have w2 := w1.alloc w1.size (.cells C0.toArray 96)
  have N0 := Lib.hid ((Blk.new w 96 (row8 s) _ rfl).alloc (.cells C0.toArray 96))
  have N1 := Lib.hid (Blk.new (w.alloc (.cells (row8 s).toArray 96)) 96 C0 (w.heap.size + 1) (by simp))
  have W2 := Lib.hid w2
  have HS := Lib.hid hs
  rw [shB_lit]
  have c0 := N0.out.cell 0 _ (row8_val s 0 (by rw [HS.out.1]; decide))
  have c1 := N0.out.cell 1 _ (row8_val s 1 (by rw [HS.out.1]; decide))
  have c2 := N0.out.cell 2 _ (row8_val s 2 (by rw [HS.out.1]; decide))
  have c3 := N0.out.cell 3 _ (row8_val s 3 (by rw [HS.out.1]; decide))
  have c4 := N0.out.cell 4 _ (row8_val s 4 (by rw [HS.out.1]; decide))
  have c5 := N0.out.cell 5 _ (row8_val s 5 (by rw [HS.out.1]; decide))
  have c6 := N0.out.cell 6 _ (row8_val s 6 (by rw [HS.out.1]; decide))
  have c7 := N0.out.cell 7 _ (row8_val s 7 (by rw [HS.out.1]; decide))
  have c8 := N0.out.cell 8 _ (row8_val s 8 (by rw [HS.out.1]; decide))
  have c9 := N0.out.cell 9 _ (row8_val s 9 (by rw [HS.out.1]; decide))
  have c10 := N0.out.cell 10 _ (row8_val s 10 (by rw [HS.out.1]; decide))
  have c11 := N0.out.cell 11 _ (row8_val s 11 (by rw [HS.out.1]; decide))
  have c12 := N0.out.cell 12 _ (row8_val s 12 (by rw [HS.out.1]; decide))
  have c13 := N0.out.cell 13 _ (row8_val s 13 (by rw [HS.out.1]; decide))
  have c14 := N0.out.cell 14 _ (row8_val s 14 (by rw [HS.out.1]; decide))
  have c15 := N0.out.cell 15 _ (row8_val s 15 (by rw [HS.out.1]; decide))
  obtain ⟨x0, hx0⟩ : ∃ x, x = gb s 0 := ⟨_, rfl⟩
  rw [<- hx0] at c0 ⊢
  obtain ⟨x1, hx1⟩ : ∃ x, x = gb s 1 := ⟨_, rfl⟩
  rw [<- hx1] at c1 ⊢
  obtain ⟨x2, hx2⟩ : ∃ x, x = gb s 2 := ⟨_, rfl⟩
  rw [<- hx2] at c2 ⊢
  obtain ⟨x3, hx3⟩ : ∃ x, x = gb s 3 := ⟨_, rfl⟩
  rw [<- hx3] at c3 ⊢
  obtain ⟨x4, hx4⟩ : ∃ x, x = gb s 4 := ⟨_, rfl⟩
  rw [<- hx4] at c4 ⊢
  obtain ⟨x5, hx5⟩ : ∃ x, x = gb s 5 := ⟨_, rfl⟩
  rw [<- hx5] at c5 ⊢
  obtain ⟨x6, hx6⟩ : ∃ x, x = gb s 6 := ⟨_, rfl⟩
  rw [<- hx6] at c6 ⊢
  obtain ⟨x7, hx7⟩ : ∃ x, x = gb s 7 := ⟨_, rfl⟩
  rw [<- hx7] at c7 ⊢
  obtain ⟨x8, hx8⟩ : ∃ x, x = gb s 8 := ⟨_, rfl⟩
  rw [<- hx8] at c8 ⊢
  obtain ⟨x9, hx9⟩ : ∃ x, x = gb s 9 := ⟨_, rfl⟩
  rw [<- hx9] at c9 ⊢
  obtain ⟨x10, hx10⟩ : ∃ x, x = gb s 10 := ⟨_, rfl⟩
  rw [<- hx10] at c10 ⊢
  obtain ⟨x11, hx11⟩ : ∃ x, x = gb s 11 := ⟨_, rfl⟩
  rw [<- hx11] at c11 ⊢
  obtain ⟨x12, hx12⟩ : ∃ x, x = gb s 12 := ⟨_, rfl⟩
  rw [<- hx12] at c12 ⊢
  obtain ⟨x13, hx13⟩ : ∃ x, x = gb s 13 := ⟨_, rfl⟩
  rw [<- hx13] at c13 ⊢
  obtain ⟨x14, hx14⟩ : ∃ x, x = gb s 14 := ⟨_, rfl⟩
  rw [<- hx14] at c14 ⊢
  obtain ⟨x15, hx15⟩ : ∃ x, x = gb s 15 := ⟨_, rfl⟩
  rw [<- hx15] at c15 ⊢
  obtain ⟨M, hM⟩ : ∃ M, M = [x0, x13, x10, x7, x4, x1, x14, x11, x8, x5, x2, x15, x12, x9, x6, x3] := ⟨_, rfl⟩
  rw [<- hM]
  have M16 := Lib.hid (show (row8 M).length = 16 by rw [hM]; rfl)
  have HM := Lib.hid (show (row8 M).toArray = #[.int .u8 (x0 : Int), .int .u8 (x13 : Int), .int .u8 (x10 : Int), .int .u8 (x7 : Int), .int .u8 (x4 : Int), .int .u8 (x1 : Int), .int .u8 (x14 : Int), .int .u8 (x11 : Int), .int .u8 (x8 : Int), .int .u8 (x5 : Int), .int .u8 (x2 : Int), .int .u8 (x15 : Int), .int .u8 (x12 : Int), .int .u8 (x9 : Int), .int .u8 (x6 : Int), .int .u8 (x3 : Int)] by rw [hM]; rfl)
  clear hC0 w1 w2 hs hM hx0 hx1 hx2 hx3 hx4 hx5 hx6 hx7 hx8 hx9 hx10 hx11 hx12 hx13 hx14 hx15
  go_enter Tryd.func83, Tryd.ntmps83
  go_wp2_with (first
    | (refine wpList_buildTo rfl 96 _ rfl (some 35) rfl #[.int .u8 (x0 : Int), .int .u8 (x13 : Int), .int .u8 (x10 : Int), .int .u8 (x7 : Int), .int .u8 (x4 : Int), .int .u8 (x1 : Int), .int .u8 (x14 : Int), .int .u8 (x11 : Int), .int .u8 (x8 : Int), .int .u8 (x5 : Int), .int .u8 (x2 : Int), .int .u8 (x15 : Int), .int .u8 (x12 : Int), .int .u8 (x9 : Int), .int .u8 (x6 : Int), .int .u8 (x3 : Int)] (by kernel_rfl) ?_; rw [<- HM.out])
    | (refine wpList_store_mid rfl 96 (.tmp 2) (.tmp 35) rfl (w.heap.size + 1) 0 (row8 M).toArray rfl rfl (N1.out.there _ (by rw [List.size_toArray, M16.out, hc0])) (by rw [List.size_toArray, M16.out]; exact info16) (row8_one _) ?_))
  have fin := N1.out.whole (row8 M) (by rw [M16.out, hc0])
  exact bodyPost_ret (v := .agg (row8 M).toArray) (results_mid rfl _ _ (w.heap.size + 1) (row8 M) _ rfl fin.range Tryd.underlying96 rfl (by rw [M16.out]; exact info16)) rfl ⟨rfl, below_setCells (w.heap.size + 1) (by omega) _ 0 _ W2.out⟩
end Go.Proofs.YtflnodkajhokhaaDoor
namespace Go.Proofs.YtflnodkajhokhaaDoor
open Go.ChangeShapes Go.WideShapes Go.ChangeAt Go.RowKit
open AM FM
namespace AM
theorem mix_said (a b c d S : Nat) (hb : b < 256) (h : S = a ^^^ b ^^^ c ^^^ d) : a ^^^ (S ^^^ mul 2 (a ^^^ b)) = mul 2 a ^^^ mul 3 b ^^^ c ^^^ d := by
  rw [h, mul_xor_right, <- mul_three b hb]
  generalize mul 2 a = x
  generalize mul 2 b = y
  calc _ = (a ^^^ a) ^^^ (x ^^^ (y ^^^ b) ^^^ c ^^^ d) := by ac_rfl
    _ = _ := by rw [Nat.xor_self, Nat.zero_xor]
theorem mx_mx (t : List Nat) (ht : Bytes 16 t) : mx (mx t) = row fun i => mul 5 (at_ t i 0) ^^^ mul 4 (at_ t i 2) :=
  bytes_ext (n := 16) (row_len _) (row_len _) fun k hk => by
    have ex : ∀ t, mx t = row (mxE t) := fun _ => rfl
    rw [ex (mx t), row_get _ _ hk, row_get _ _ hk]
    unfold mxE
    rw [ex t, at_row _ _ _ hk, at_row _ _ _ hk, at_row _ _ _ hk, at_row _ _ _ hk]
    unfold mxE
    simp only [at_at, Nat.reduceAdd, Nat.reduceMod]
    have b0 := at_lt ht k 0
    have b1 := at_lt ht k 1
    have b2 := at_lt ht k 2
    have b3 := at_lt ht k 3
    generalize at_ t k 0 = a at *
    generalize at_ t k 1 = b at *
    generalize at_ t k 2 = c at *
    generalize at_ t k 3 = d at *
    simp only [mul_xor_right]
    rw [mm 2 2 a (by omega) (by omega) b0, mm 2 3 b (by omega) (by omega) b1, mm 3 2 b (by omega) (by omega) b1, mm 3 3 c (by omega) (by omega) b2]
    have e0 := four (mul 2 2) 1 0 0 5 a (by decide +kernel)
    have e1 := four (mul 2 3) (mul 3 2) 0 0 0 b (by decide +kernel)
    have e2 := four 2 (mul 3 3) 2 1 4 c (by decide +kernel)
    rw [one_mul a b0, mul_zero_left] at e0
    rw [mul_zero_left, Nat.xor_zero, Nat.xor_zero] at e1
    rw [one_mul c b2] at e2
    rw [<- e0, <- e2]
    generalize mul (mul 2 2) a = x1 at *
    generalize mul (mul 2 3) b = x2 at *
    generalize mul (mul 3 2) b = x3 at *
    generalize mul (mul 3 3) c = x4 at *
    generalize mul 2 c = x5 at *
    generalize mul 2 d = x6 at *
    generalize mul 3 d = x7 at *
    generalize mul 3 a = x8 at *
    calc _ = (x1 ^^^ a) ^^^ (x5 ^^^ x4 ^^^ x5 ^^^ c) ^^^ (x2 ^^^ x3) ^^^ (b ^^^ b) ^^^ (x6 ^^^ x6) ^^^ (x7 ^^^ x7) ^^^ (x8 ^^^ x8) := by ac_rfl
      _ = _ := by rw [e1]; simp only [Nat.xor_self, Nat.xor_zero]
theorem mx_four {t : List Nat} (ht : Bytes 16 t) : mx (mx (mx (mx t))) = t :=
  bytes_ext (n := 16) (row_len _) ht.1 fun k hk => by
    rw [mx_mx (mx (mx t)) (mx_bytes (mx_bytes ht)), mx_mx t ht, row_get _ _ hk, at_row _ _ _ hk, at_row _ _ _ hk]
    simp only [at_at, Nat.reduceAdd, Nat.reduceMod]
    have b0 := at_lt ht k 0
    have b2 := at_lt ht k 2
    rw [<- at_zero t k]
    generalize at_ t k 0 = a at *
    generalize at_ t k 2 = c at *
    simp only [mul_xor_right]
    rw [mm 5 5 a (by omega) (by omega) b0, mm 5 4 c (by omega) (by omega) b2, mm 4 5 c (by omega) (by omega) b2, mm 4 4 a (by omega) (by omega) b0]
    have e0 := four (mul 5 5) (mul 4 4) 0 0 1 a (by decide +kernel)
    have e1 := four (mul 5 4) (mul 4 5) 0 0 0 c (by decide +kernel)
    rw [one_mul a b0, mul_zero_left, Nat.xor_zero, Nat.xor_zero] at e0
    rw [mul_zero_left, Nat.xor_zero, Nat.xor_zero] at e1
    calc _ = (mul (mul 5 5) a ^^^ mul (mul 4 4) a) ^^^ (mul (mul 5 4) c ^^^ mul (mul 4 5) c) := by ac_rfl
      _ = _ := by rw [e0, e1, Nat.xor_zero]
theorem imx_said {t : List Nat} (ht : Bytes 16 t) : mx (mx (mx t)) = imx t := by
  have h := imx_mx (mx_bytes (mx_bytes (mx_bytes ht)))
  rw [mx_four ht] at h
  exact h.symm
end AM
set_option maxRecDepth 100000 in
set_option maxHeartbeats 4000000 in
theorem mixed_any (t : List Nat) (ht : Bytes 16 t) (w : World) :
    Calls Tryd.prog 62 #[.agg (row8 t).toArray] w fun e w' => e = .returned (.agg (row8 (mx t)).toArray) /\ Below w.heap.size w w' := by
  obtain ⟨C0, hC0⟩ : ∃ C0, C0 = row8 (List.replicate 16 0) := ⟨_, rfl⟩
  have hz : ∀ w, (zeroValue 96).run Tryd.prog w = .ok (.agg C0.toArray) w := by rw [hC0]; exact zero16
  have hc0 : C0.length = 16 := by rw [hC0, row8_len, List.length_replicate]
  have w1 := (Below.refl w.heap.size w).alloc (Nat.le_refl _) (.cells (row8 t).toArray 96)
  have w2 := w1.alloc w1.size (.cells C0.toArray 96)
  have N0 := Lib.hid ((Blk.new w 96 (row8 t) _ rfl).alloc (.cells C0.toArray 96))
  have N1 := Lib.hid (Blk.new (w.alloc (.cells (row8 t).toArray 96)) 96 C0 (w.heap.size + 1) (by simp))
  have W2 := Lib.hid w2
  have HT := Lib.hid ht
  obtain ⟨M, hM⟩ : ∃ M, M = mx t := ⟨_, rfl⟩
  rw [<- hM]
  have HM := Lib.hid hM
  have M16 := Lib.hid (show (row8 M).length = 16 by rw [hM, row8_len]; exact row_len _)
  clear hC0 w1 w2 ht hM
  go_enter Tryd.func62, Tryd.ntmps62
  go_wp2_with fail
  go_loopw [10] (fun i wr => ∃ c : Nat, c <= 4 /\ i = .int .i64 (c : Int) /\ Blk wr w.heap.size 96 (row8 (mxTo t (4 * c))) /\ Blk wr (w.heap.size + 1) 96 C0 /\ Below w.heap.size w wr) (fun i _ => 4 - (intOf i).toNat)
  case atStart => exact ⟨0, Nat.zero_le _, rfl, by rw [Nat.mul_zero, mxTo_zero HT.out.1]; exact N0.out, N1.out, W2.out⟩
  case round =>
    clear N0 N1 W2
    obtain ⟨c, hc, rfl, b0, b1, bb⟩ := hrel
    by_cases hlt : c < 4
    . obtain ⟨q, hq⟩ : ∃ q, q = 4 * c := ⟨_, rfl⟩
      have hqI : 4 * (c : Int) = (q : Int) := by omega
      have hq16 : q < 16 := by omega
      rw [<- hq] at b0
      have go : ∀ j n, q <= n -> n <= q + j -> j < 4 -> gb (mxTo t n) (q + j) = gb t (q + j) := fun j n h1 h2 h3 => by rw [mxTo_get _ _ _ (by omega), if_neg (by omega)]
      obtain ⟨y0, hy0⟩ : ∃ y, y = gb t q := ⟨_, rfl⟩
      obtain ⟨y1, hy1⟩ : ∃ y, y = gb t (q + 1) := ⟨_, rfl⟩
      obtain ⟨y2, hy2⟩ : ∃ y, y = gb t (q + 2) := ⟨_, rfl⟩
      obtain ⟨y3, hy3⟩ : ∃ y, y = gb t (q + 3) := ⟨_, rfl⟩
      have l0 : y0 < 256 := by rw [hy0]; exact HT.out.2 _
      have l1 : y1 < 256 := by rw [hy1]; exact HT.out.2 _
      have l2 : y2 < 256 := by rw [hy2]; exact HT.out.2 _
      have l3 : y3 < 256 := by rw [hy3]; exact HT.out.2 _
      have vat : ∀ j n, q <= n -> n <= q + j -> j < 4 -> (row8 (mxTo t n))[q + j]? = some (.int .u8 ((gb t (q + j) : Nat) : Int)) := fun j n h1 h2 h3 => by
        rw [row8_val _ _ (by rw [mxTo_len]; omega), go j n h1 h2 h3]
      have d0 := b0.cell q _ (vat 0 q (by omega) (by omega) (by omega))
      have d1 := b0.cell (q + 1) _ (vat 1 q (by omega) (by omega) (by omega))
      have d2 := b0.cell (q + 2) _ (vat 2 q (by omega) (by omega) (by omega))
      have d3 := b0.cell (q + 3) _ (vat 3 q (by omega) (by omega) (by omega))
      rw [Nat.add_zero, <- hy0] at d0
      rw [<- hy1] at d1
      rw [<- hy2] at d2
      rw [<- hy3] at d3
      have HC0 := Lib.hid (show (row8 (mxTo t q))[q]? = some (.int .u8 (y0 : Int)) by rw [hy0]; exact vat 0 q (by omega) (by omega) (by omega))
      have HC1 := Lib.hid (show (row8 (mxTo t (q + 1)))[q + 1]? = some (.int .u8 (y1 : Int)) by rw [hy1]; exact vat 1 (q + 1) (by omega) (by omega) (by omega))
      have HC2 := Lib.hid (show (row8 (mxTo t (q + 2)))[q + 2]? = some (.int .u8 (y2 : Int)) by rw [hy2]; exact vat 2 (q + 2) (by omega) (by omega) (by omega))
      have HC3 := Lib.hid (show (row8 (mxTo t (q + 3)))[q + 3]? = some (.int .u8 (y3 : Int)) by rw [hy3]; exact vat 3 (q + 3) (by omega) (by omega) (by omega))
      obtain ⟨S, hS⟩ : ∃ S, S = y0 ^^^ y1 ^^^ y2 ^^^ y3 := ⟨_, rfl⟩
      have lS : S < 256 := by rw [hS]; exact lt_of_xor (lt_of_xor (lt_of_xor l0 l1) l2) l3
      have x1 := u8_xor_nat y0 y1 l0 l1
      have x2 := u8_xor_nat (y0 ^^^ y1) y2 (lt_of_xor l0 l1) l2
      have x3 := u8_xor_nat (y0 ^^^ y1 ^^^ y2) y3 (lt_of_xor (lt_of_xor l0 l1) l2) l3
      rw [<- hS] at x3
      have at4 : ∀ r j, r < 4 -> at_ t (q + r) j = gb t (q + (r + j) % 4) := fun r j h => by
        unfold at_; congr 1; omega
      have HM0 := Lib.hid (show (mxTo t q).set q (y0 ^^^ (S ^^^ mul 2 (y0 ^^^ y1))) = mxTo t (q + 1) by
        rw [mix_said y0 y1 y2 y3 S l1 hS, hy0, hy1, hy2, hy3, <- mxTo_step t q (by omega)]; unfold mxE; rw [show at_ t q 0 = _ from at4 0 0 (by omega), show at_ t q 1 = _ from at4 0 1 (by omega), show at_ t q 2 = _ from at4 0 2 (by omega), show at_ t q 3 = _ from at4 0 3 (by omega)]; rfl)
      have HM1 := Lib.hid (show (mxTo t (q + 1)).set (q + 1) (y1 ^^^ (S ^^^ mul 2 (y1 ^^^ y2))) = mxTo t (q + 1 + 1) by
        rw [mix_said y1 y2 y3 y0 S l2 (by rw [hS]; ac_rfl), hy0, hy1, hy2, hy3, <- mxTo_step t (q + 1) (by omega)]; unfold mxE; rw [at4 1 0 (by omega), at4 1 1 (by omega), at4 1 2 (by omega), at4 1 3 (by omega)]; rfl)
      have HM2 := Lib.hid (show (mxTo t (q + 2)).set (q + 2) (y2 ^^^ (S ^^^ mul 2 (y2 ^^^ y3))) = mxTo t (q + 2 + 1) by
        rw [mix_said y2 y3 y0 y1 S l3 (by rw [hS]; ac_rfl), hy0, hy1, hy2, hy3, <- mxTo_step t (q + 2) (by omega)]; unfold mxE; rw [at4 2 0 (by omega), at4 2 1 (by omega), at4 2 2 (by omega), at4 2 3 (by omega)]; rfl)
      have HM3 := Lib.hid (show (mxTo t (q + 3)).set (q + 3) (y3 ^^^ (S ^^^ mul 2 (y3 ^^^ y0))) = mxTo t (q + 3 + 1) by
        rw [mix_said y3 y0 y1 y2 S l0 (by rw [hS]; ac_rfl), hy0, hy1, hy2, hy3, <- mxTo_step t (q + 3) (by omega)]; unfold mxE; rw [at4 3 0 (by omega), at4 3 1 (by omega), at4 3 2 (by omega), at4 3 3 (by omega)]; rfl)
      have B0 := Lib.hid b0
      have B1 := Lib.hid b1
      have BB := Lib.hid bb
      have HQ := Lib.hid hq
      clear b0 b1 bb hS vat go at4 hy0 hy1 hy2 hy3 hq
      have z1 : ((q : Int) + 1).toNat = q + 1 := by omega
      have z2 : ((q : Int) + 2).toNat = q + 2 := by omega
      have z3 : ((q : Int) + 3).toNat = q + 3 := by omega
      have z4 : (0 : Int) <= (q : Int) + 1 := by omega
      have z5 : (0 : Int) <= (q : Int) + 2 := by omega
      have z6 : (0 : Int) <= (q : Int) + 3 := by omega
      have hq12 : q <= 12 := by have := HQ.out; omega
      have z0 : (q : Int) < 16 := by omega
      have z7 : (q : Int) + 1 < 16 := by omega
      have z8 : (q : Int) + 2 < 16 := by omega
      have z9 : (q : Int) + 3 < 16 := by omega
      go_upto_region 5 with (fail)
      go_big_quiet (fail)
      have N5 := Lib.hid (show Blk (wr.drewN nq) w.heap.size 96 (row8 (mxTo t q)) from B0.out)
      have R5 := Lib.hid (show Blk (wr.drewN nq) (w.heap.size + 1) 96 C0 from B1.out)
      have B5 := Lib.hid (below_dN BB.out nq)
      clear d0 d1 d2 d3 B0 B1 BB
      generalize wr.drewN nq = wd at *
      go_upto_region 7 with (fail)
      refine wp_region_g (by kernel_rfl) 11 (by decide) (by kernel_rfl) (by kernel_rfl) (by kernel_rfl) (wd.heap.size) (Nat.le_refl _) [.val (.int .i64 (q : Int)), .val (.pointer (some ⟨w.heap.size, q, none⟩)), .val (.int .u8 (y0 : Int)), .val (.int .u8 (S : Int)), .val (.int .u8 (y0 : Int)), .val (.int .u8 (y1 : Int)), .val (.int .u8 ((y0 ^^^ y1 : Nat) : Int)), .val (.int .u8 ((mul 2 (y0 ^^^ y1) : Nat) : Int)), .val (.int .u8 ((S ^^^ mul 2 (y0 ^^^ y1) : Nat) : Int)), .val (.int .u8 ((y0 ^^^ (S ^^^ mul 2 (y0 ^^^ y1)) : Nat) : Int)), .val (.pointer (some ⟨w.heap.size, q, none⟩))] (fun _ => 12) ?_ ?_
      . refine ⟨?_, ?_, ?_, ?_, ?_, ?_, ?_, ?_, ?_, ?_, ?_, trivial⟩
        . intro a w' hF hB hd
          have e4 : a.eval (.tmp 4) = .int .i64 (q : Int) := hF 4 (by decide +kernel)
          exact doesG_val rfl (ex_move rfl e4) rfl rfl
        . intro a w' hF hB hd
          have e1 : a.eval (.tmp 1) = .pointer (some ⟨w.heap.size, 0, none⟩) := hF 1 (by decide +kernel)
          have e37 : a.eval (.tmp 37) = .int .i64 (q : Int) := hd 0 (by decide +kernel) (.inr (by decide))
          exact doesG_val rfl (v := .pointer (some ⟨w.heap.size, q, none⟩)) (by unfold execOp; simp only [e1, e37]; go_simp) rfl rfl
        . intro a w' hF hB hd
          have e38 : a.eval (.tmp 38) = .pointer (some ⟨w.heap.size, q, none⟩) := hd 1 (by decide +kernel) (.inr (by decide))
          have c := (N5.out.below hB N5.out.lt).cell (q) (.int .u8 (y0 : Int)) HC0.out
          exact doesG_val rfl (v := .int .u8 (y0 : Int)) (by unfold execOp; simp only [e38]; go_simp) rfl rfl
        . intro a w' hF hB hd
          have e9 : a.eval (.tmp 9) = .int .u8 (S : Int) := hF 9 (by decide +kernel)
          exact doesG_val rfl (ex_move rfl e9) rfl rfl
        . intro a w' hF hB hd
          have e5 : a.eval (.tmp 5) = .int .u8 (y0 : Int) := hF 5 (by decide +kernel)
          exact doesG_val rfl (ex_move rfl e5) rfl rfl
        . intro a w' hF hB hd
          have e6 : a.eval (.tmp 6) = .int .u8 (y1 : Int) := hF 6 (by decide +kernel)
          exact doesG_val rfl (ex_move rfl e6) rfl rfl
        . intro a w' hF hB hd
          have e41 : a.eval (.tmp 41) = .int .u8 (y0 : Int) := hd 4 (by decide +kernel) (.inr (by decide))
          have e42 : a.eval (.tmp 42) = .int .u8 (y1 : Int) := hd 5 (by decide +kernel) (.inr (by decide))
          have hx := u8_xor_nat (y0) (y1) (l0) (l1)
          exact doesG_val rfl (v := .int .u8 ((y0 ^^^ y1 : Nat) : Int)) (by unfold execOp; simp only [e41, e42]; go_simp) rfl rfl
        . intro a w' hF hB hd
          have e43 : a.eval (.tmp 43) = .int .u8 ((y0 ^^^ y1 : Nat) : Int) := hd 6 (by decide +kernel) (.inr (by decide))
          exact doesG_call rfl (ex_call (vs := #[.int .u8 ((y0 ^^^ y1 : Nat) : Int)]) rfl (by simp only [List.map_toArray, List.map_cons, List.map_nil, e43]) (by go_simp)) rfl ((dbl_any (y0 ^^^ y1) (lt_of_xor l0 l1) w').mono fun e w2 hh => by obtain ⟨h1, rfl⟩ := hh; exact ⟨_, h1, rfl, Below.refl _ _⟩)
        . intro a w' hF hB hd
          have e40 : a.eval (.tmp 40) = .int .u8 (S : Int) := hd 3 (by decide +kernel) (.inr (by decide))
          have e44 : a.eval (.tmp 44) = .int .u8 ((mul 2 (y0 ^^^ y1) : Nat) : Int) := hd 7 (by decide +kernel) (.inr (by decide))
          have hx := u8_xor_nat (S) (mul 2 (y0 ^^^ y1)) (lS) (mul_lt 2 (y0 ^^^ y1) (by omega))
          exact doesG_val rfl (v := .int .u8 ((S ^^^ mul 2 (y0 ^^^ y1) : Nat) : Int)) (by unfold execOp; simp only [e40, e44]; go_simp) rfl rfl
        . intro a w' hF hB hd
          have e39 : a.eval (.tmp 39) = .int .u8 (y0 : Int) := hd 2 (by decide +kernel) (.inr (by decide))
          have e45 : a.eval (.tmp 45) = .int .u8 ((S ^^^ mul 2 (y0 ^^^ y1) : Nat) : Int) := hd 8 (by decide +kernel) (.inr (by decide))
          have hx := u8_xor_nat (y0) ((S ^^^ mul 2 (y0 ^^^ y1))) (l0) (lt_of_xor lS (mul_lt 2 (y0 ^^^ y1) (by omega)))
          exact doesG_val rfl (v := .int .u8 ((y0 ^^^ (S ^^^ mul 2 (y0 ^^^ y1)) : Nat) : Int)) (by unfold execOp; simp only [e39, e45]; go_simp) rfl rfl
        . intro a w' hF hB hd
          have e1 : a.eval (.tmp 1) = .pointer (some ⟨w.heap.size, 0, none⟩) := hF 1 (by decide +kernel)
          have e37 : a.eval (.tmp 37) = .int .i64 (q : Int) := hd 0 (by decide +kernel) (.inr (by decide))
          exact doesG_val rfl (v := .pointer (some ⟨w.heap.size, q, none⟩)) (by unfold execOp; simp only [e1, e37]; go_simp) rfl rfl
      . intro vs w6 hB hv hap
        have e46 : vs 9 = .int .u8 ((y0 ^^^ (S ^^^ mul 2 (y0 ^^^ y1)) : Nat) : Int) := hv 9 (by decide) (by decide)
        have e47 : vs 10 = .pointer (some ⟨w.heap.size, q, none⟩) := hv 10 (by decide) (by decide)
        simp only [List.take_succ_cons, List.take_zero, List.drop_succ_cons, List.drop_zero, putOps, Act.put, List.setIfInBounds_toArray, List.set_cons_zero, List.set_cons_succ, e46, e47]
        have c6 := (N5.out.below hB N5.out.lt).cell (q) (.int .u8 (y0 : Int)) HC0.out
        have f6 := (N5.out.below hB N5.out.lt).free (q)
        have N6 := Lib.hid ((N5.out.below hB N5.out.lt).set (q) (.int .u8 ((y0 ^^^ (S ^^^ mul 2 (y0 ^^^ y1)) : Nat) : Int)))
        have R6 := Lib.hid ((R5.out.below hB R5.out.lt).other ⟨w.heap.size, q, none⟩ (.int .u8 ((y0 ^^^ (S ^^^ mul 2 (y0 ^^^ y1)) : Nat) : Int)) (by simp <;> omega))
        have B6 := Lib.hid ((B5.out.on hB).setCell (p := ⟨w.heap.size, q, none⟩) (by simp <;> omega) (.int .u8 ((y0 ^^^ (S ^^^ mul 2 (y0 ^^^ y1)) : Nat) : Int)))
        clear hv hap e46 e47 hB
        generalize vs 0 = v0 at *
        generalize vs 1 = v1 at *
        generalize vs 2 = v2 at *
        generalize vs 3 = v3 at *
        generalize vs 4 = v4 at *
        generalize vs 5 = v5 at *
        generalize vs 6 = v6 at *
        generalize vs 7 = v7 at *
        generalize vs 8 = v8 at *
        go_upto_region 8 with (fail)
        rw [row8_set, HM0.out] at N6
        clear c6 f6 N5 R5 B5 
        generalize w6.setCell ⟨w.heap.size, q, none⟩ (.int .u8 ((y0 ^^^ (S ^^^ mul 2 (y0 ^^^ y1)) : Nat) : Int)) = wd at *
        have N5 := N6
        have R5 := R6
        have B5 := B6
        clear N6 R6 B6
        rename_i wd0
        refine wp_region_g (by kernel_rfl) 12 (by decide) (by kernel_rfl) (by kernel_rfl) (by kernel_rfl) (wd.heap.size) (Nat.le_refl _) [.val (.int .i64 (q : Int)), .val (.int .i64 ((q : Int) + 1)), .val (.pointer (some ⟨w.heap.size, q + 1, none⟩)), .val (.int .u8 (y1 : Int)), .val (.int .u8 (S : Int)), .val (.int .u8 (y1 : Int)), .val (.int .u8 (y2 : Int)), .val (.int .u8 ((y1 ^^^ y2 : Nat) : Int)), .val (.int .u8 ((mul 2 (y1 ^^^ y2) : Nat) : Int)), .val (.int .u8 ((S ^^^ mul 2 (y1 ^^^ y2) : Nat) : Int)), .val (.int .u8 ((y1 ^^^ (S ^^^ mul 2 (y1 ^^^ y2)) : Nat) : Int)), .val (.pointer (some ⟨w.heap.size, q + 1, none⟩))] (fun _ => 13) ?_ ?_
        . refine ⟨?_, ?_, ?_, ?_, ?_, ?_, ?_, ?_, ?_, ?_, ?_, ?_, trivial⟩
          . intro a w' hF hB hd
            have e4 : a.eval (.tmp 4) = .int .i64 (q : Int) := hF 4 (by decide +kernel)
            exact doesG_val rfl (ex_move rfl e4) rfl rfl
          . intro a w' hF hB hd
            have e48 : a.eval (.tmp 48) = .int .i64 (q : Int) := hd 0 (by decide +kernel) (.inr (by decide))
            exact doesG_val rfl (v := .int .i64 ((q : Int) + 1)) (by unfold execOp; simp only [e48]; go_simp; rw [IntKind.wrap_i64] <;> omega) rfl rfl
          . intro a w' hF hB hd
            have e1 : a.eval (.tmp 1) = .pointer (some ⟨w.heap.size, 0, none⟩) := hF 1 (by decide +kernel)
            have e49 : a.eval (.tmp 49) = .int .i64 ((q : Int) + 1) := hd 1 (by decide +kernel) (.inr (by decide))
            exact doesG_val rfl (v := .pointer (some ⟨w.heap.size, q + 1, none⟩)) (by unfold execOp; simp only [e1, e49]; go_simp) rfl rfl
          . intro a w' hF hB hd
            have e50 : a.eval (.tmp 50) = .pointer (some ⟨w.heap.size, q + 1, none⟩) := hd 2 (by decide +kernel) (.inr (by decide))
            have c := (N5.out.below hB N5.out.lt).cell (q + 1) (.int .u8 (y1 : Int)) HC1.out
            exact doesG_val rfl (v := .int .u8 (y1 : Int)) (by unfold execOp; simp only [e50]; go_simp) rfl rfl
          . intro a w' hF hB hd
            have e9 : a.eval (.tmp 9) = .int .u8 (S : Int) := hF 9 (by decide +kernel)
            exact doesG_val rfl (ex_move rfl e9) rfl rfl
          . intro a w' hF hB hd
            have e6 : a.eval (.tmp 6) = .int .u8 (y1 : Int) := hF 6 (by decide +kernel)
            exact doesG_val rfl (ex_move rfl e6) rfl rfl
          . intro a w' hF hB hd
            have e7 : a.eval (.tmp 7) = .int .u8 (y2 : Int) := hF 7 (by decide +kernel)
            exact doesG_val rfl (ex_move rfl e7) rfl rfl
          . intro a w' hF hB hd
            have e53 : a.eval (.tmp 53) = .int .u8 (y1 : Int) := hd 5 (by decide +kernel) (.inr (by decide))
            have e54 : a.eval (.tmp 54) = .int .u8 (y2 : Int) := hd 6 (by decide +kernel) (.inr (by decide))
            have hx := u8_xor_nat (y1) (y2) (l1) (l2)
            exact doesG_val rfl (v := .int .u8 ((y1 ^^^ y2 : Nat) : Int)) (by unfold execOp; simp only [e53, e54]; go_simp) rfl rfl
          . intro a w' hF hB hd
            have e55 : a.eval (.tmp 55) = .int .u8 ((y1 ^^^ y2 : Nat) : Int) := hd 7 (by decide +kernel) (.inr (by decide))
            exact doesG_call rfl (ex_call (vs := #[.int .u8 ((y1 ^^^ y2 : Nat) : Int)]) rfl (by simp only [List.map_toArray, List.map_cons, List.map_nil, e55]) (by go_simp)) rfl ((dbl_any (y1 ^^^ y2) (lt_of_xor l1 l2) w').mono fun e w2 hh => by obtain ⟨h1, rfl⟩ := hh; exact ⟨_, h1, rfl, Below.refl _ _⟩)
          . intro a w' hF hB hd
            have e52 : a.eval (.tmp 52) = .int .u8 (S : Int) := hd 4 (by decide +kernel) (.inr (by decide))
            have e56 : a.eval (.tmp 56) = .int .u8 ((mul 2 (y1 ^^^ y2) : Nat) : Int) := hd 8 (by decide +kernel) (.inr (by decide))
            have hx := u8_xor_nat (S) (mul 2 (y1 ^^^ y2)) (lS) (mul_lt 2 (y1 ^^^ y2) (by omega))
            exact doesG_val rfl (v := .int .u8 ((S ^^^ mul 2 (y1 ^^^ y2) : Nat) : Int)) (by unfold execOp; simp only [e52, e56]; go_simp) rfl rfl
          . intro a w' hF hB hd
            have e51 : a.eval (.tmp 51) = .int .u8 (y1 : Int) := hd 3 (by decide +kernel) (.inr (by decide))
            have e57 : a.eval (.tmp 57) = .int .u8 ((S ^^^ mul 2 (y1 ^^^ y2) : Nat) : Int) := hd 9 (by decide +kernel) (.inr (by decide))
            have hx := u8_xor_nat (y1) ((S ^^^ mul 2 (y1 ^^^ y2))) (l1) (lt_of_xor lS (mul_lt 2 (y1 ^^^ y2) (by omega)))
            exact doesG_val rfl (v := .int .u8 ((y1 ^^^ (S ^^^ mul 2 (y1 ^^^ y2)) : Nat) : Int)) (by unfold execOp; simp only [e51, e57]; go_simp) rfl rfl
          . intro a w' hF hB hd
            have e1 : a.eval (.tmp 1) = .pointer (some ⟨w.heap.size, 0, none⟩) := hF 1 (by decide +kernel)
            have e49 : a.eval (.tmp 49) = .int .i64 ((q : Int) + 1) := hd 1 (by decide +kernel) (.inr (by decide))
            exact doesG_val rfl (v := .pointer (some ⟨w.heap.size, q + 1, none⟩)) (by unfold execOp; simp only [e1, e49]; go_simp) rfl rfl
        . intro vs w6 hB hv hap
          have e58 : vs 10 = .int .u8 ((y1 ^^^ (S ^^^ mul 2 (y1 ^^^ y2)) : Nat) : Int) := hv 10 (by decide) (by decide)
          have e59 : vs 11 = .pointer (some ⟨w.heap.size, q + 1, none⟩) := hv 11 (by decide) (by decide)
          simp only [List.take_succ_cons, List.take_zero, List.drop_succ_cons, List.drop_zero, putOps, Act.put, List.setIfInBounds_toArray, List.set_cons_zero, List.set_cons_succ, e58, e59]
          have c6 := (N5.out.below hB N5.out.lt).cell (q + 1) (.int .u8 (y1 : Int)) HC1.out
          have f6 := (N5.out.below hB N5.out.lt).free (q + 1)
          have N6 := Lib.hid ((N5.out.below hB N5.out.lt).set (q + 1) (.int .u8 ((y1 ^^^ (S ^^^ mul 2 (y1 ^^^ y2)) : Nat) : Int)))
          have R6 := Lib.hid ((R5.out.below hB R5.out.lt).other ⟨w.heap.size, q + 1, none⟩ (.int .u8 ((y1 ^^^ (S ^^^ mul 2 (y1 ^^^ y2)) : Nat) : Int)) (by simp <;> omega))
          have B6 := Lib.hid ((B5.out.on hB).setCell (p := ⟨w.heap.size, q + 1, none⟩) (by simp <;> omega) (.int .u8 ((y1 ^^^ (S ^^^ mul 2 (y1 ^^^ y2)) : Nat) : Int)))
          clear hv hap e58 e59 hB
          generalize vs 0 = v0 at *
          generalize vs 1 = v1 at *
          generalize vs 2 = v2 at *
          generalize vs 3 = v3 at *
          generalize vs 4 = v4 at *
          generalize vs 5 = v5 at *
          generalize vs 6 = v6 at *
          generalize vs 7 = v7 at *
          generalize vs 8 = v8 at *
          generalize vs 9 = v9 at *
          go_upto_region 9 with (fail)
          rw [row8_set, HM1.out] at N6
          clear c6 f6 N5 R5 B5 
          generalize w6.setCell ⟨w.heap.size, q + 1, none⟩ (.int .u8 ((y1 ^^^ (S ^^^ mul 2 (y1 ^^^ y2)) : Nat) : Int)) = wd at *
          have N5 := N6
          have R5 := R6
          have B5 := B6
          clear N6 R6 B6
          rename_i wd0
          refine wp_region_g (by kernel_rfl) 12 (by decide) (by kernel_rfl) (by kernel_rfl) (by kernel_rfl) (wd.heap.size) (Nat.le_refl _) [.val (.int .i64 (q : Int)), .val (.int .i64 ((q : Int) + 2)), .val (.pointer (some ⟨w.heap.size, q + 2, none⟩)), .val (.int .u8 (y2 : Int)), .val (.int .u8 (S : Int)), .val (.int .u8 (y2 : Int)), .val (.int .u8 (y3 : Int)), .val (.int .u8 ((y2 ^^^ y3 : Nat) : Int)), .val (.int .u8 ((mul 2 (y2 ^^^ y3) : Nat) : Int)), .val (.int .u8 ((S ^^^ mul 2 (y2 ^^^ y3) : Nat) : Int)), .val (.int .u8 ((y2 ^^^ (S ^^^ mul 2 (y2 ^^^ y3)) : Nat) : Int)), .val (.pointer (some ⟨w.heap.size, q + 2, none⟩))] (fun _ => 13) ?_ ?_
          . refine ⟨?_, ?_, ?_, ?_, ?_, ?_, ?_, ?_, ?_, ?_, ?_, ?_, trivial⟩
            . intro a w' hF hB hd
              have e4 : a.eval (.tmp 4) = .int .i64 (q : Int) := hF 4 (by decide +kernel)
              exact doesG_val rfl (ex_move rfl e4) rfl rfl
            . intro a w' hF hB hd
              have e60 : a.eval (.tmp 60) = .int .i64 (q : Int) := hd 0 (by decide +kernel) (.inr (by decide))
              exact doesG_val rfl (v := .int .i64 ((q : Int) + 2)) (by unfold execOp; simp only [e60]; go_simp; rw [IntKind.wrap_i64] <;> omega) rfl rfl
            . intro a w' hF hB hd
              have e1 : a.eval (.tmp 1) = .pointer (some ⟨w.heap.size, 0, none⟩) := hF 1 (by decide +kernel)
              have e61 : a.eval (.tmp 61) = .int .i64 ((q : Int) + 2) := hd 1 (by decide +kernel) (.inr (by decide))
              exact doesG_val rfl (v := .pointer (some ⟨w.heap.size, q + 2, none⟩)) (by unfold execOp; simp only [e1, e61]; go_simp) rfl rfl
            . intro a w' hF hB hd
              have e62 : a.eval (.tmp 62) = .pointer (some ⟨w.heap.size, q + 2, none⟩) := hd 2 (by decide +kernel) (.inr (by decide))
              have c := (N5.out.below hB N5.out.lt).cell (q + 2) (.int .u8 (y2 : Int)) HC2.out
              exact doesG_val rfl (v := .int .u8 (y2 : Int)) (by unfold execOp; simp only [e62]; go_simp) rfl rfl
            . intro a w' hF hB hd
              have e9 : a.eval (.tmp 9) = .int .u8 (S : Int) := hF 9 (by decide +kernel)
              exact doesG_val rfl (ex_move rfl e9) rfl rfl
            . intro a w' hF hB hd
              have e7 : a.eval (.tmp 7) = .int .u8 (y2 : Int) := hF 7 (by decide +kernel)
              exact doesG_val rfl (ex_move rfl e7) rfl rfl
            . intro a w' hF hB hd
              have e8 : a.eval (.tmp 8) = .int .u8 (y3 : Int) := hF 8 (by decide +kernel)
              exact doesG_val rfl (ex_move rfl e8) rfl rfl
            . intro a w' hF hB hd
              have e65 : a.eval (.tmp 65) = .int .u8 (y2 : Int) := hd 5 (by decide +kernel) (.inr (by decide))
              have e66 : a.eval (.tmp 66) = .int .u8 (y3 : Int) := hd 6 (by decide +kernel) (.inr (by decide))
              have hx := u8_xor_nat (y2) (y3) (l2) (l3)
              exact doesG_val rfl (v := .int .u8 ((y2 ^^^ y3 : Nat) : Int)) (by unfold execOp; simp only [e65, e66]; go_simp) rfl rfl
            . intro a w' hF hB hd
              have e67 : a.eval (.tmp 67) = .int .u8 ((y2 ^^^ y3 : Nat) : Int) := hd 7 (by decide +kernel) (.inr (by decide))
              exact doesG_call rfl (ex_call (vs := #[.int .u8 ((y2 ^^^ y3 : Nat) : Int)]) rfl (by simp only [List.map_toArray, List.map_cons, List.map_nil, e67]) (by go_simp)) rfl ((dbl_any (y2 ^^^ y3) (lt_of_xor l2 l3) w').mono fun e w2 hh => by obtain ⟨h1, rfl⟩ := hh; exact ⟨_, h1, rfl, Below.refl _ _⟩)
            . intro a w' hF hB hd
              have e64 : a.eval (.tmp 64) = .int .u8 (S : Int) := hd 4 (by decide +kernel) (.inr (by decide))
              have e68 : a.eval (.tmp 68) = .int .u8 ((mul 2 (y2 ^^^ y3) : Nat) : Int) := hd 8 (by decide +kernel) (.inr (by decide))
              have hx := u8_xor_nat (S) (mul 2 (y2 ^^^ y3)) (lS) (mul_lt 2 (y2 ^^^ y3) (by omega))
              exact doesG_val rfl (v := .int .u8 ((S ^^^ mul 2 (y2 ^^^ y3) : Nat) : Int)) (by unfold execOp; simp only [e64, e68]; go_simp) rfl rfl
            . intro a w' hF hB hd
              have e63 : a.eval (.tmp 63) = .int .u8 (y2 : Int) := hd 3 (by decide +kernel) (.inr (by decide))
              have e69 : a.eval (.tmp 69) = .int .u8 ((S ^^^ mul 2 (y2 ^^^ y3) : Nat) : Int) := hd 9 (by decide +kernel) (.inr (by decide))
              have hx := u8_xor_nat (y2) ((S ^^^ mul 2 (y2 ^^^ y3))) (l2) (lt_of_xor lS (mul_lt 2 (y2 ^^^ y3) (by omega)))
              exact doesG_val rfl (v := .int .u8 ((y2 ^^^ (S ^^^ mul 2 (y2 ^^^ y3)) : Nat) : Int)) (by unfold execOp; simp only [e63, e69]; go_simp) rfl rfl
            . intro a w' hF hB hd
              have e1 : a.eval (.tmp 1) = .pointer (some ⟨w.heap.size, 0, none⟩) := hF 1 (by decide +kernel)
              have e61 : a.eval (.tmp 61) = .int .i64 ((q : Int) + 2) := hd 1 (by decide +kernel) (.inr (by decide))
              exact doesG_val rfl (v := .pointer (some ⟨w.heap.size, q + 2, none⟩)) (by unfold execOp; simp only [e1, e61]; go_simp) rfl rfl
          . intro vs w6 hB hv hap
            have e70 : vs 10 = .int .u8 ((y2 ^^^ (S ^^^ mul 2 (y2 ^^^ y3)) : Nat) : Int) := hv 10 (by decide) (by decide)
            have e71 : vs 11 = .pointer (some ⟨w.heap.size, q + 2, none⟩) := hv 11 (by decide) (by decide)
            simp only [List.take_succ_cons, List.take_zero, List.drop_succ_cons, List.drop_zero, putOps, Act.put, List.setIfInBounds_toArray, List.set_cons_zero, List.set_cons_succ, e70, e71]
            have c6 := (N5.out.below hB N5.out.lt).cell (q + 2) (.int .u8 (y2 : Int)) HC2.out
            have f6 := (N5.out.below hB N5.out.lt).free (q + 2)
            have N6 := Lib.hid ((N5.out.below hB N5.out.lt).set (q + 2) (.int .u8 ((y2 ^^^ (S ^^^ mul 2 (y2 ^^^ y3)) : Nat) : Int)))
            have R6 := Lib.hid ((R5.out.below hB R5.out.lt).other ⟨w.heap.size, q + 2, none⟩ (.int .u8 ((y2 ^^^ (S ^^^ mul 2 (y2 ^^^ y3)) : Nat) : Int)) (by simp <;> omega))
            have B6 := Lib.hid ((B5.out.on hB).setCell (p := ⟨w.heap.size, q + 2, none⟩) (by simp <;> omega) (.int .u8 ((y2 ^^^ (S ^^^ mul 2 (y2 ^^^ y3)) : Nat) : Int)))
            clear hv hap e70 e71 hB
            generalize vs 0 = v0 at *
            generalize vs 1 = v1 at *
            generalize vs 2 = v2 at *
            generalize vs 3 = v3 at *
            generalize vs 4 = v4 at *
            generalize vs 5 = v5 at *
            generalize vs 6 = v6 at *
            generalize vs 7 = v7 at *
            generalize vs 8 = v8 at *
            generalize vs 9 = v9 at *
            go_upto_region 10 with (fail)
            rw [row8_set, HM2.out] at N6
            clear c6 f6 N5 R5 B5 
            generalize w6.setCell ⟨w.heap.size, q + 2, none⟩ (.int .u8 ((y2 ^^^ (S ^^^ mul 2 (y2 ^^^ y3)) : Nat) : Int)) = wd at *
            have N5 := N6
            have R5 := R6
            have B5 := B6
            clear N6 R6 B6
            rename_i wd0
            refine wp_region_g (by kernel_rfl) 12 (by decide) (by kernel_rfl) (by kernel_rfl) (by kernel_rfl) (wd.heap.size) (Nat.le_refl _) [.val (.int .i64 (q : Int)), .val (.int .i64 ((q : Int) + 3)), .val (.pointer (some ⟨w.heap.size, q + 3, none⟩)), .val (.int .u8 (y3 : Int)), .val (.int .u8 (S : Int)), .val (.int .u8 (y3 : Int)), .val (.int .u8 (y0 : Int)), .val (.int .u8 ((y3 ^^^ y0 : Nat) : Int)), .val (.int .u8 ((mul 2 (y3 ^^^ y0) : Nat) : Int)), .val (.int .u8 ((S ^^^ mul 2 (y3 ^^^ y0) : Nat) : Int)), .val (.int .u8 ((y3 ^^^ (S ^^^ mul 2 (y3 ^^^ y0)) : Nat) : Int)), .val (.pointer (some ⟨w.heap.size, q + 3, none⟩))] (fun _ => 13) ?_ ?_
            . refine ⟨?_, ?_, ?_, ?_, ?_, ?_, ?_, ?_, ?_, ?_, ?_, ?_, trivial⟩
              . intro a w' hF hB hd
                have e4 : a.eval (.tmp 4) = .int .i64 (q : Int) := hF 4 (by decide +kernel)
                exact doesG_val rfl (ex_move rfl e4) rfl rfl
              . intro a w' hF hB hd
                have e72 : a.eval (.tmp 72) = .int .i64 (q : Int) := hd 0 (by decide +kernel) (.inr (by decide))
                exact doesG_val rfl (v := .int .i64 ((q : Int) + 3)) (by unfold execOp; simp only [e72]; go_simp; rw [IntKind.wrap_i64] <;> omega) rfl rfl
              . intro a w' hF hB hd
                have e1 : a.eval (.tmp 1) = .pointer (some ⟨w.heap.size, 0, none⟩) := hF 1 (by decide +kernel)
                have e73 : a.eval (.tmp 73) = .int .i64 ((q : Int) + 3) := hd 1 (by decide +kernel) (.inr (by decide))
                exact doesG_val rfl (v := .pointer (some ⟨w.heap.size, q + 3, none⟩)) (by unfold execOp; simp only [e1, e73]; go_simp) rfl rfl
              . intro a w' hF hB hd
                have e74 : a.eval (.tmp 74) = .pointer (some ⟨w.heap.size, q + 3, none⟩) := hd 2 (by decide +kernel) (.inr (by decide))
                have c := (N5.out.below hB N5.out.lt).cell (q + 3) (.int .u8 (y3 : Int)) HC3.out
                exact doesG_val rfl (v := .int .u8 (y3 : Int)) (by unfold execOp; simp only [e74]; go_simp) rfl rfl
              . intro a w' hF hB hd
                have e9 : a.eval (.tmp 9) = .int .u8 (S : Int) := hF 9 (by decide +kernel)
                exact doesG_val rfl (ex_move rfl e9) rfl rfl
              . intro a w' hF hB hd
                have e8 : a.eval (.tmp 8) = .int .u8 (y3 : Int) := hF 8 (by decide +kernel)
                exact doesG_val rfl (ex_move rfl e8) rfl rfl
              . intro a w' hF hB hd
                have e5 : a.eval (.tmp 5) = .int .u8 (y0 : Int) := hF 5 (by decide +kernel)
                exact doesG_val rfl (ex_move rfl e5) rfl rfl
              . intro a w' hF hB hd
                have e77 : a.eval (.tmp 77) = .int .u8 (y3 : Int) := hd 5 (by decide +kernel) (.inr (by decide))
                have e78 : a.eval (.tmp 78) = .int .u8 (y0 : Int) := hd 6 (by decide +kernel) (.inr (by decide))
                have hx := u8_xor_nat (y3) (y0) (l3) (l0)
                exact doesG_val rfl (v := .int .u8 ((y3 ^^^ y0 : Nat) : Int)) (by unfold execOp; simp only [e77, e78]; go_simp) rfl rfl
              . intro a w' hF hB hd
                have e79 : a.eval (.tmp 79) = .int .u8 ((y3 ^^^ y0 : Nat) : Int) := hd 7 (by decide +kernel) (.inr (by decide))
                exact doesG_call rfl (ex_call (vs := #[.int .u8 ((y3 ^^^ y0 : Nat) : Int)]) rfl (by simp only [List.map_toArray, List.map_cons, List.map_nil, e79]) (by go_simp)) rfl ((dbl_any (y3 ^^^ y0) (lt_of_xor l3 l0) w').mono fun e w2 hh => by obtain ⟨h1, rfl⟩ := hh; exact ⟨_, h1, rfl, Below.refl _ _⟩)
              . intro a w' hF hB hd
                have e76 : a.eval (.tmp 76) = .int .u8 (S : Int) := hd 4 (by decide +kernel) (.inr (by decide))
                have e80 : a.eval (.tmp 80) = .int .u8 ((mul 2 (y3 ^^^ y0) : Nat) : Int) := hd 8 (by decide +kernel) (.inr (by decide))
                have hx := u8_xor_nat (S) (mul 2 (y3 ^^^ y0)) (lS) (mul_lt 2 (y3 ^^^ y0) (by omega))
                exact doesG_val rfl (v := .int .u8 ((S ^^^ mul 2 (y3 ^^^ y0) : Nat) : Int)) (by unfold execOp; simp only [e76, e80]; go_simp) rfl rfl
              . intro a w' hF hB hd
                have e75 : a.eval (.tmp 75) = .int .u8 (y3 : Int) := hd 3 (by decide +kernel) (.inr (by decide))
                have e81 : a.eval (.tmp 81) = .int .u8 ((S ^^^ mul 2 (y3 ^^^ y0) : Nat) : Int) := hd 9 (by decide +kernel) (.inr (by decide))
                have hx := u8_xor_nat (y3) ((S ^^^ mul 2 (y3 ^^^ y0))) (l3) (lt_of_xor lS (mul_lt 2 (y3 ^^^ y0) (by omega)))
                exact doesG_val rfl (v := .int .u8 ((y3 ^^^ (S ^^^ mul 2 (y3 ^^^ y0)) : Nat) : Int)) (by unfold execOp; simp only [e75, e81]; go_simp) rfl rfl
              . intro a w' hF hB hd
                have e1 : a.eval (.tmp 1) = .pointer (some ⟨w.heap.size, 0, none⟩) := hF 1 (by decide +kernel)
                have e73 : a.eval (.tmp 73) = .int .i64 ((q : Int) + 3) := hd 1 (by decide +kernel) (.inr (by decide))
                exact doesG_val rfl (v := .pointer (some ⟨w.heap.size, q + 3, none⟩)) (by unfold execOp; simp only [e1, e73]; go_simp) rfl rfl
            . intro vs w6 hB hv hap
              have e82 : vs 10 = .int .u8 ((y3 ^^^ (S ^^^ mul 2 (y3 ^^^ y0)) : Nat) : Int) := hv 10 (by decide) (by decide)
              have e83 : vs 11 = .pointer (some ⟨w.heap.size, q + 3, none⟩) := hv 11 (by decide) (by decide)
              simp only [List.take_succ_cons, List.take_zero, List.drop_succ_cons, List.drop_zero, putOps, Act.put, List.setIfInBounds_toArray, List.set_cons_zero, List.set_cons_succ, e82, e83]
              have c6 := (N5.out.below hB N5.out.lt).cell (q + 3) (.int .u8 (y3 : Int)) HC3.out
              have f6 := (N5.out.below hB N5.out.lt).free (q + 3)
              have N6 := Lib.hid ((N5.out.below hB N5.out.lt).set (q + 3) (.int .u8 ((y3 ^^^ (S ^^^ mul 2 (y3 ^^^ y0)) : Nat) : Int)))
              have R6 := Lib.hid ((R5.out.below hB R5.out.lt).other ⟨w.heap.size, q + 3, none⟩ (.int .u8 ((y3 ^^^ (S ^^^ mul 2 (y3 ^^^ y0)) : Nat) : Int)) (by simp <;> omega))
              have B6 := Lib.hid ((B5.out.on hB).setCell (p := ⟨w.heap.size, q + 3, none⟩) (by simp <;> omega) (.int .u8 ((y3 ^^^ (S ^^^ mul 2 (y3 ^^^ y0)) : Nat) : Int)))
              clear hv hap e82 e83 hB
              generalize vs 0 = v0 at *
              generalize vs 1 = v1 at *
              generalize vs 2 = v2 at *
              generalize vs 3 = v3 at *
              generalize vs 4 = v4 at *
              generalize vs 5 = v5 at *
              generalize vs 6 = v6 at *
              generalize vs 7 = v7 at *
              generalize vs 8 = v8 at *
              generalize vs 9 = v9 at *
              go_wp2_with fail
              rw [row8_set, HM3.out] at N6
              clear c6 f6 N5 R5 B5 
              exact ⟨⟨c + 1, by omega, by go_num, by rw [show 4 * (c + 1) = q + 3 + 1 by omega]; exact N6.out, R6.out, B6.out⟩, by simp [intOf]; omega⟩
    . obtain rfl : c = 4 := by omega
      rw [show 4 * 4 = 16 from rfl, mxTo_all, <- HM.out] at b0
      have B0 := Lib.hid b0
      have B1 := Lib.hid b1
      have BB := Lib.hid bb
      clear b0 b1 bb
      go_wp2_with (first
        | (refine wpList_load_mid rfl 96 (.tmp 1) rfl w.heap.size 0 rfl (row8 M) _ B0.out.range Tryd.underlying96 rfl (by rw [M16.out]; exact info16) ?_)
        | (refine wpList_store_mid rfl 96 (.tmp 2) (.tmp 85) rfl (w.heap.size + 1) 0 (row8 M).toArray rfl rfl (B1.out.there _ (by rw [List.size_toArray, M16.out, hc0])) (by rw [List.size_toArray, M16.out]; exact info16) (row8_one _) ?_))
      have fin := B1.out.whole (row8 M) (by rw [M16.out, hc0])
      exact bodyPost_ret (v := .agg (row8 M).toArray) (results_mid rfl _ _ (w.heap.size + 1) (row8 M) _ rfl fin.range Tryd.underlying96 rfl (by rw [M16.out]; exact info16)) rfl ⟨rfl, below_setCells (w.heap.size + 1) (by omega) _ 0 _ BB.out⟩
set_option maxRecDepth 100000 in
set_option maxHeartbeats 1000000 in
theorem unmixed_any (t : List Nat) (ht : Bytes 16 t) (w : World) :
    Calls Tryd.prog 84 #[.agg (row8 t).toArray] w fun e w' => e = .returned (.agg (row8 (imx t)).toArray) /\ Below w.heap.size w w' := by
  obtain ⟨C0, hC0⟩ : ∃ C0, C0 = row8 (List.replicate 16 0) := ⟨_, rfl⟩
  have hz : ∀ w, (zeroValue 96).run Tryd.prog w = .ok (.agg C0.toArray) w := by rw [hC0]; exact zero16
  have hc0 : C0.length = 16 := by rw [hC0, row8_len, List.length_replicate]
  have w1 := (Below.refl w.heap.size w).alloc (Nat.le_refl _) (.cells (row8 t).toArray 96)
  have w2 := w1.alloc w1.size (.cells C0.toArray 96)
  have N0 := Lib.hid ((Blk.new w 96 (row8 t) _ rfl).alloc (.cells C0.toArray 96))
  have N1 := Lib.hid (Blk.new (w.alloc (.cells (row8 t).toArray 96)) 96 C0 (w.heap.size + 1) (by simp))
  have W2 := Lib.hid w2
  have T16 := Lib.hid (show (row8 t).length = 16 by rw [row8_len]; exact ht.1)
  obtain ⟨A, hA⟩ : ∃ A, A = mx t := ⟨_, rfl⟩
  obtain ⟨B, hB⟩ : ∃ B, B = mx A := ⟨_, rfl⟩
  obtain ⟨M, hM⟩ : ∃ M, M = mx B := ⟨_, rfl⟩
  have bA : Bytes 16 A := by rw [hA]; exact mx_bytes ht
  have bB : Bytes 16 B := by rw [hB]; exact mx_bytes bA
  rw [show imx t = M by rw [hM, hB, hA]; exact (imx_said ht).symm]
  have HC1 := Lib.hid (fun W => mixed_any t ht W)
  have HC2 := Lib.hid (fun W => mixed_any A bA W)
  have HC3 := Lib.hid (fun W => mixed_any B bB W)
  rw [<- hA] at HC1
  rw [<- hB] at HC2
  rw [<- hM] at HC3
  have M16 := Lib.hid (show (row8 M).length = 16 by rw [hM, row8_len]; exact row_len _)
  clear hC0 w1 w2 ht hA hB hM bA bB
  go_enter Tryd.func84, Tryd.ntmps84
  go_wp2_with (first
    | (refine wpList_load_mid rfl 96 (.tmp 1) rfl w.heap.size 0 rfl (row8 t) _ N0.out.range Tryd.underlying96 rfl (by rw [T16.out]; exact info16) ?_)
    | (go_at_call 62; (with_reducible refine (HC1.out _).mono ?_); rintro e w4 ⟨rfl, b4⟩; have B4 := Lib.hid (W2.out.on b4); have R4 := Lib.hid (N1.out.below b4 N1.out.lt); clear b4)
    | (go_at_call 62; (with_reducible refine (HC2.out _).mono ?_); rintro e w5 ⟨rfl, b5⟩; have B5 := Lib.hid (B4.out.on b5); have R5 := Lib.hid (R4.out.below b5 R4.out.lt); clear b5)
    | (go_at_call 62; (with_reducible refine (HC3.out _).mono ?_); rintro e w6 ⟨rfl, b6⟩; have B6 := Lib.hid (B5.out.on b6); have R6 := Lib.hid (R5.out.below b6 R5.out.lt); clear b6)
    | (refine wpList_store_mid rfl 96 (.tmp 2) (.tmp 6) rfl (w.heap.size + 1) 0 (row8 M).toArray rfl rfl (R6.out.there _ (by rw [List.size_toArray, M16.out, hc0])) (by rw [List.size_toArray, M16.out]; exact info16) (row8_one _) ?_))
  have fin := R6.out.whole (row8 M) (by rw [M16.out, hc0])
  exact bodyPost_ret (v := .agg (row8 M).toArray) (results_mid rfl _ _ (w.heap.size + 1) (row8 M) _ rfl fin.range Tryd.underlying96 rfl (by rw [M16.out]; exact info16)) rfl ⟨rfl, below_setCells (w.heap.size + 1) (by omega) _ 0 _ B6.out⟩
end Go.Proofs.YtflnodkajhokhaaDoor
namespace Go.Proofs.YtflnodkajhokhaaDoor
open Go.ChangeShapes Go.WideShapes Go.ChangeAt Go.RowKit
open AM FM
def Cph (w : World) (c : Nat) (K : List Nat) : Prop := Bytes 32 K /\ Blk w c 100 (row8 (sched K))
theorem Cph.lt {w : World} {c : Nat} {K : List Nat} (h : Cph w c K) : c < w.heap.size := h.2.lt
theorem Cph.below {w w' : World} {c : Nat} {K : List Nat} (h : Cph w c K) (hb : Below w.heap.size w w') : Cph w' c K := ⟨h.1, h.2.below hb h.2.lt⟩
theorem Cph.grown {w w' : World} {c : Nat} {K : List Nat} {o : Option Nat} (h : Cph w c K) (hg : w.grownBy w' o) (hne : some c ≠ o) : Cph w' c K := ⟨h.1, h.2.grown hg hne⟩
namespace AM
theorem decTo_step (k : Nat -> List Nat) (b : List Nat) (m : Nat) (h0 : 0 < m) (h : m <= 13) : decTo k b (14 - (m - 1)) = iss (imx (ax (decTo k b (14 - m)) (k m))) := by
  obtain ⟨n, rfl⟩ : ∃ n, m = 13 - n := ⟨13 - m, by omega⟩
  rw [show 14 - (13 - n - 1) = n + 2 by omega, show 14 - (13 - n) = n + 1 by omega]
  rfl
end AM
set_option maxRecDepth 100000 in
set_option maxHeartbeats 4000000 in
theorem cph_enc (K : List Nat) (c : Nat) (s : List Nat) (hs : Bytes 16 s) (w : World) (h : Cph w c K) (hx : TabX w) :
    Calls Tryd.prog 39 #[.pointer (some ⟨c, 0, none⟩), .agg (row8 s).toArray] w fun e w' => e = .returned (.agg (row8 (enc (rk (sched K)) s)).toArray) /\ Below w.heap.size w w' := by
  obtain ⟨hK, hcb⟩ := h
  obtain ⟨S, hS⟩ : ∃ S, S = sched K := ⟨_, rfl⟩
  rw [<- hS] at hcb ⊢
  have bS : Bytes 240 S := by rw [hS]; exact sched_bytes hK.2
  have hk : ∀ n, Bytes 16 (rk S n) := fun n => rk_bytes bS.2 n
  obtain ⟨C0, hC0⟩ : ∃ C0, C0 = row8 (List.replicate 16 0) := ⟨_, rfl⟩
  have hz : ∀ w, (zeroValue 96).run Tryd.prog w = .ok (.agg C0.toArray) w := by rw [hC0]; exact zero16
  have hc0 : C0.length = 16 := by rw [hC0, row8_len, List.length_replicate]
  have w1 := (Below.refl w.heap.size w).alloc (Nat.le_refl _) (.cells (row8 s).toArray 96)
  have w2 := w1.alloc w1.size (.cells C0.toArray 96)
  have N2 := Lib.hid ((Blk.new w 96 (row8 s) _ rfl).alloc (.cells C0.toArray 96))
  have R2 := Lib.hid (Blk.new (w.alloc (.cells (row8 s).toArray 96)) 96 C0 (w.heap.size + 1) (by simp))
  have C2 := Lib.hid ((hcb.alloc (.cells (row8 s).toArray 96)).alloc (.cells C0.toArray 96))
  have HCL := Lib.hid hcb.lt
  have B2 := Lib.hid w2
  have HK := Lib.hid hk
  have HSL := Lib.hid bS.1
  have HS := Lib.hid hs
  have HX := Lib.hid hx
  clear hC0 w1 w2 hK hS bS hk hs hx hcb
  go_enter Tryd.func39, Tryd.ntmps39
  go_upto_region 3 with (fail)
  obtain ⟨wr, hwr⟩ : ∃ W, W = (w.alloc (.cells (row8 s).toArray 96)).alloc (.cells C0.toArray 96) := ⟨_, rfl⟩
  rw [<- hwr] at N2 R2 C2 B2 ⊢
  clear hwr
  obtain ⟨Da, hD⟩ : ∃ Da, Da = s := ⟨_, rfl⟩
  have bD : Bytes 16 Da := by rw [hD]; exact HS.out
  obtain ⟨Ma, hM⟩ : ∃ Ma, Ma = ax Da (rk S 0) := ⟨_, rfl⟩
  have bM : Bytes 16 Ma := by rw [hM]; exact ax_bytes bD (HK.out 0)
  have D16 := Lib.hid (show (row8 Da).length = 16 by rw [row8_len]; exact bD.1)
  have M16 := Lib.hid (show (row8 Ma).length = 16 by rw [row8_len]; exact bM.1)
  have R16 := Lib.hid (show (row8 (rk S 0)).length = 16 by rw [row8_len]; exact row_len _)
  rw [<- hD] at N2
  have HC1 := Lib.hid (fun W => keyed_any Da (rk S 0) bD (HK.out 0) W)
  rw [<- hM] at HC1
  have HM := Lib.hid (show Ma = encTo (rk S) s 0 by rw [hM, hD]; rfl)
  clear hM bM
  refine wp_region_g (by kernel_rfl) 7 (by decide) (by kernel_rfl) (by kernel_rfl) (by kernel_rfl) (wr.heap.size) (Nat.le_refl _) [.val (.agg (row8 Da).toArray), .val (.pointer (some ⟨c, 0, none⟩)), .val (.pointer (some ⟨c, 0, none⟩)), .val (.pointer (some ⟨c, 0, none⟩)), .val (.pointer (some ⟨c, 0, none⟩)), .val (.agg (row8 (rk S 0)).toArray), .val (.agg (row8 Ma).toArray)] (fun _ => 8) ?_ ?_
  . refine ⟨?_, ?_, ?_, ?_, ?_, ?_, ?_, trivial⟩
    . intro a w' hF hB hd
      have e3 : a.eval (.tmp 3) = .pointer (some ⟨w.heap.size, 0, none⟩) := hF 3 (by decide +kernel)
      exact doesG_wp rfl rfl fun K' hK' => wp_load_mid 96 (.tmp 3) rfl w.heap.size 0 e3 (row8 Da) _ ((N2.out.below hB N2.out.lt).range) Tryd.underlying96 rfl (by rw [D16.out]; exact info16) (hK' _ _ rfl (Below.refl _ _))
    . intro a w' hF hB hd
      have e0 : a.eval (.tmp 0) = .pointer (some ⟨c, 0, none⟩) := hF 0 (by decide +kernel)
      exact doesG_val rfl (ex_move rfl e0) rfl rfl
    . intro a w' hF hB hd
      have e10 : a.eval (.tmp 10) = .pointer (some ⟨c, 0, none⟩) := hd 1 (by decide +kernel) (.inr (by decide))
      exact doesG_val rfl (v := .pointer (some ⟨c, 0, none⟩)) (by unfold execOp; simp only [e10]; go_simp) rfl rfl
    . intro a w' hF hB hd
      have e11 : a.eval (.tmp 11) = .pointer (some ⟨c, 0, none⟩) := hd 2 (by decide +kernel) (.inr (by decide))
      exact doesG_val rfl (v := .pointer (some ⟨c, 0, none⟩)) (by unfold execOp; simp only [e11]; go_simp) rfl rfl
    . intro a w' hF hB hd
      have e12 : a.eval (.tmp 12) = .pointer (some ⟨c, 0, none⟩) := hd 3 (by decide +kernel) (.inr (by decide))
      exact doesG_val rfl (v := .pointer (some ⟨c, 0, none⟩)) (by unfold execOp; simp only [e12]; go_simp) rfl rfl
    . intro a w' hF hB hd
      have e13 : a.eval (.tmp 13) = .pointer (some ⟨c, 0, none⟩) := hd 4 (by decide +kernel) (.inr (by decide))
      exact doesG_wp rfl rfl fun K' hK' => wp_load_mid 96 (.tmp 13) rfl c 0 e13 (row8 (rk S 0)) _ ((by have h := range_part (C2.out.below hB C2.out.lt) 0 _ (fun j v h => by have := rk_part HSL.out 0 (by omega) j v h; simpa using this); exact h)) Tryd.underlying96 rfl (by rw [R16.out]; exact info16) (hK' _ _ rfl (Below.refl _ _))
    . intro a w' hF hB hd
      have e9 : a.eval (.tmp 9) = .agg (row8 Da).toArray := hd 0 (by decide +kernel) (.inr (by decide))
      have e14 : a.eval (.tmp 14) = .agg (row8 (rk S 0)).toArray := hd 5 (by decide +kernel) (.inr (by decide))
      exact doesG_call rfl (ex_call (vs := #[.agg (row8 Da).toArray, .agg (row8 (rk S 0)).toArray]) rfl (by simp only [List.map_toArray, List.map_cons, List.map_nil, e9, e14]) (by go_simp)) rfl ((HC1.out w').mono fun e w2 hh => ⟨_, hh.1, rfl, hh.2⟩)
  . intro vs w7 hB hv hap
    have er : vs 6 = .agg (row8 Ma).toArray := hv 6 (by decide) (by decide)
    simp only [List.take_succ_cons, List.take_zero, List.drop_succ_cons, List.drop_zero, putOps, Act.put, List.setIfInBounds_toArray, List.set_cons_zero, List.set_cons_succ, er]
    have N7 := Lib.hid (N2.out.below hB N2.out.lt)
    have R7 := Lib.hid (R2.out.below hB R2.out.lt)
    have C7 := Lib.hid (C2.out.below hB C2.out.lt)
    have B7 := Lib.hid (B2.out.on hB)
    clear hv hap er hB N2 R2 C2 B2
    generalize vs 0 = v0 at *
    generalize vs 1 = v1 at *
    generalize vs 2 = v2 at *
    generalize vs 3 = v3 at *
    generalize vs 4 = v4 at *
    generalize vs 5 = v5 at *
    go_upto_region 5 with (refine wpList_store_blk rfl 96 (.tmp 3) (.tmp 15) rfl w.heap.size 0 (row8 Ma) rfl rfl 96 (row8 Da) N7.out (by rw [M16.out, D16.out]; exact Nat.le_refl _) (by rw [M16.out]; exact info16) (row8_one _) ?_; intro w9 b9 g9; rw [splice_all _ _ (by rw [M16.out, D16.out])] at b9; have N9 := Lib.hid b9; have R9 := Lib.hid (R7.out.grown g9 (fun q => by have e : (w.heap.size + 1) = w.heap.size := Option.some.inj q; omega)); have C9 := Lib.hid (C7.out.grown g9 (fun q => by have e : c = w.heap.size := Option.some.inj q; have := HCL.out; omega)); have B9 := Lib.hid (B7.out.grown g9 B7.out.size (fun k hk => by have e : w.heap.size = k := Option.some.inj hk; omega)); clear b9 g9 N7 R7 C7 B7)
    rw [HM.out] at N9
    clear HM M16 D16 R16 HC1 bD
    go_loopw [5] (fun x wr => ∃ n : Nat, n <= 13 /\ x = .int .i64 ((n : Int) + 1) /\ Blk wr w.heap.size 96 (row8 (encTo (rk S) s n)) /\ Blk wr (w.heap.size + 1) 96 C0 /\ Blk wr c 100 (row8 S) /\ Below w.heap.size w wr) (fun x _ => 14 - (intOf x).toNat)
    case atStart => exact ⟨0, by omega, rfl, N9.out, R9.out, C9.out, B9.out⟩
    case round =>
      clear N9 R9 C9 B9
      obtain ⟨n, hn, rfl, n0, r0, c0, b0⟩ := hrel
      have HXr := Lib.hid (HX.out.below b0)
      by_cases hlt : n < 13
      . have hltI : (n : Int) + 1 < 14 := by omega
        obtain ⟨D, hD⟩ : ∃ D, D = encTo (rk S) s n := ⟨_, rfl⟩
        have bD : Bytes 16 D := by rw [hD]; exact encTo_bytes HK.out HS.out n
        obtain ⟨M, hM⟩ : ∃ M, M = ax (mx (ss D)) (rk S (n + 1)) := ⟨_, rfl⟩
        have bM : Bytes 16 M := by rw [hM]; exact ax_bytes (mx_bytes (ss_bytes _)) (HK.out (n + 1))
        obtain ⟨E1, hE1⟩ : ∃ E, E = mpA box D := ⟨_, rfl⟩
        have bE1 : Bytes 16 E1 := by rw [hE1]; exact mpA_bytes _ box_byte _
        obtain ⟨E2, hE2⟩ : ∃ E, E = shA E1 := ⟨_, rfl⟩
        have bE2 : Bytes 16 E2 := by rw [hE2]; exact shA_bytes bE1
        obtain ⟨E3, hE3⟩ : ∃ E, E = mx E2 := ⟨_, rfl⟩
        have bE3 : Bytes 16 E3 := by rw [hE3]; exact mx_bytes bE2
        have hM3 : M = ax E3 (rk S (n + 1)) := by rw [hM, hE3, hE2, hE1, ss_said]
        have HM := Lib.hid (show M = encTo (rk S) s (n + 1) by rw [hM, hD]; rfl)
        rw [<- hD] at n0
        have N2 := Lib.hid n0
        have R2 := Lib.hid r0
        have C2 := Lib.hid c0
        have B2 := Lib.hid b0
        have HC1 := Lib.hid (fun W (hW : Below wr.heap.size wr W) => boxed_any D bD W (HXr.out.below hW))
        have HC2 := Lib.hid (fun W => shifted_any E1 bE1 W)
        have HC3 := Lib.hid (fun W => mixed_any E2 bE2 W)
        have HC4 := Lib.hid (fun W => keyed_any E3 (rk S (n + 1)) bE3 (HK.out (n + 1)) W)
        rw [<- hE1] at HC1
        rw [<- hE2] at HC2
        rw [<- hE3] at HC3
        rw [<- hM3] at HC4
        have D16 := Lib.hid (show (row8 D).length = 16 by rw [row8_len]; exact bD.1)
        have M16 := Lib.hid (show (row8 M).length = 16 by rw [row8_len]; exact bM.1)
        have R16 := Lib.hid (show (row8 (rk S (n + 1))).length = 16 by rw [row8_len]; exact row_len _)
        clear hD hM hM3 hE1 hE2 hE3 bD bM bE1 bE2 bE3 n0 r0 c0 b0
        have z0 : (0 : Int) <= (n : Int) + 1 := by omega
        have z1 : (n : Int) + 1 < 15 := by omega
        have z2 : ((n : Int) + 1).toNat = n + 1 := by omega
        go_upto_region 7 with (fail)
        refine wp_region_g (by kernel_rfl) 11 (by decide) (by kernel_rfl) (by kernel_rfl) (by kernel_rfl) (wr.heap.size) (Nat.le_refl _) [.val (.agg (row8 D).toArray), .val (.agg (row8 E1).toArray), .val (.agg (row8 E2).toArray), .val (.agg (row8 E3).toArray), .val (.pointer (some ⟨c, 0, none⟩)), .val (.int .i64 ((n : Int) + 1)), .val (.pointer (some ⟨c, 0, none⟩)), .val (.pointer (some ⟨c, 0, none⟩)), .val (.pointer (some ⟨c, 16 * (n + 1), none⟩)), .val (.agg (row8 (rk S (n + 1))).toArray), .val (.agg (row8 M).toArray)] (fun _ => 12) ?_ ?_
        . refine ⟨?_, ?_, ?_, ?_, ?_, ?_, ?_, ?_, ?_, ?_, ?_, trivial⟩
          . intro a w' hF hB hd
            have e3 : a.eval (.tmp 3) = .pointer (some ⟨w.heap.size, 0, none⟩) := hF 3 (by decide +kernel)
            exact doesG_wp rfl rfl fun K' hK' => wp_load_mid 96 (.tmp 3) rfl w.heap.size 0 e3 (row8 D) _ ((N2.out.below hB N2.out.lt).range) Tryd.underlying96 rfl (by rw [D16.out]; exact info16) (hK' _ _ rfl (Below.refl _ _))
          . intro a w' hF hB hd
            have e20 : a.eval (.tmp 20) = .agg (row8 D).toArray := hd 0 (by decide +kernel) (.inr (by decide))
            exact doesG_call rfl (ex_call (vs := #[.agg (row8 D).toArray]) rfl (by simp only [List.map_toArray, List.map_cons, List.map_nil, e20]) (by go_simp)) rfl ((HC1.out w' hB).mono fun e w2 hh => ⟨_, hh.1, rfl, hh.2⟩)
          . intro a w' hF hB hd
            have e21 : a.eval (.tmp 21) = .agg (row8 E1).toArray := hd 1 (by decide +kernel) (.inr (by decide))
            exact doesG_call rfl (ex_call (vs := #[.agg (row8 E1).toArray]) rfl (by simp only [List.map_toArray, List.map_cons, List.map_nil, e21]) (by go_simp)) rfl ((HC2.out w').mono fun e w2 hh => ⟨_, hh.1, rfl, hh.2⟩)
          . intro a w' hF hB hd
            have e22 : a.eval (.tmp 22) = .agg (row8 E2).toArray := hd 2 (by decide +kernel) (.inr (by decide))
            exact doesG_call rfl (ex_call (vs := #[.agg (row8 E2).toArray]) rfl (by simp only [List.map_toArray, List.map_cons, List.map_nil, e22]) (by go_simp)) rfl ((HC3.out w').mono fun e w2 hh => ⟨_, hh.1, rfl, hh.2⟩)
          . intro a w' hF hB hd
            have e0 : a.eval (.tmp 0) = .pointer (some ⟨c, 0, none⟩) := hF 0 (by decide +kernel)
            exact doesG_val rfl (ex_move rfl e0) rfl rfl
          . intro a w' hF hB hd
            have e5 : a.eval (.tmp 5) = .int .i64 ((n : Int) + 1) := hF 5 (by decide +kernel)
            exact doesG_val rfl (ex_move rfl e5) rfl rfl
          . intro a w' hF hB hd
            have e24 : a.eval (.tmp 24) = .pointer (some ⟨c, 0, none⟩) := hd 4 (by decide +kernel) (.inr (by decide))
            exact doesG_val rfl (v := .pointer (some ⟨c, 0, none⟩)) (by unfold execOp; simp only [e24]; go_simp) rfl rfl
          . intro a w' hF hB hd
            have e26 : a.eval (.tmp 26) = .pointer (some ⟨c, 0, none⟩) := hd 6 (by decide +kernel) (.inr (by decide))
            exact doesG_val rfl (v := .pointer (some ⟨c, 0, none⟩)) (by unfold execOp; simp only [e26]; go_simp) rfl rfl
          . intro a w' hF hB hd
            have e27 : a.eval (.tmp 27) = .pointer (some ⟨c, 0, none⟩) := hd 7 (by decide +kernel) (.inr (by decide))
            have e25 : a.eval (.tmp 25) = .int .i64 ((n : Int) + 1) := hd 5 (by decide +kernel) (.inr (by decide))
            exact doesG_val rfl (v := .pointer (some ⟨c, 16 * (n + 1), none⟩)) (by unfold execOp; simp only [e27, e25]; go_simp; try rw [z2]; try omega) rfl rfl
          . intro a w' hF hB hd
            have e28 : a.eval (.tmp 28) = .pointer (some ⟨c, 16 * (n + 1), none⟩) := hd 8 (by decide +kernel) (.inr (by decide))
            exact doesG_wp rfl rfl fun K' hK' => wp_load_mid 96 (.tmp 28) rfl c (16 * (n + 1)) e28 (row8 (rk S (n + 1))) _ (range_part (C2.out.below hB C2.out.lt) (16 * (n + 1)) _ (rk_part HSL.out (n + 1) (by omega))) Tryd.underlying96 rfl (by rw [R16.out]; exact info16) (hK' _ _ rfl (Below.refl _ _))
          . intro a w' hF hB hd
            have e23 : a.eval (.tmp 23) = .agg (row8 E3).toArray := hd 3 (by decide +kernel) (.inr (by decide))
            have e29 : a.eval (.tmp 29) = .agg (row8 (rk S (n + 1))).toArray := hd 9 (by decide +kernel) (.inr (by decide))
            exact doesG_call rfl (ex_call (vs := #[.agg (row8 E3).toArray, .agg (row8 (rk S (n + 1))).toArray]) rfl (by simp only [List.map_toArray, List.map_cons, List.map_nil, e23, e29]) (by go_simp)) rfl ((HC4.out w').mono fun e w2 hh => ⟨_, hh.1, rfl, hh.2⟩)
        . intro vs w7 hB hv hap
          have er : vs 10 = .agg (row8 M).toArray := hv 10 (by decide) (by decide)
          simp only [List.take_succ_cons, List.take_zero, List.drop_succ_cons, List.drop_zero, putOps, Act.put, List.setIfInBounds_toArray, List.set_cons_zero, List.set_cons_succ, er]
          have N7 := Lib.hid (N2.out.below hB N2.out.lt)
          have R7 := Lib.hid (R2.out.below hB R2.out.lt)
          have C7 := Lib.hid (C2.out.below hB C2.out.lt)
          have B7 := Lib.hid (B2.out.on hB)
          clear hv hap er hB N2 R2 C2 B2
          generalize vs 0 = v0 at *
          generalize vs 1 = v1 at *
          generalize vs 2 = v2 at *
          generalize vs 3 = v3 at *
          generalize vs 4 = v4 at *
          generalize vs 5 = v5 at *
          generalize vs 6 = v6 at *
          generalize vs 7 = v7 at *
          generalize vs 8 = v8 at *
          generalize vs 9 = v9 at *
          go_wp2_with (refine wpList_store_blk rfl 96 (.tmp 3) (.tmp 30) rfl w.heap.size 0 (row8 M) rfl rfl 96 (row8 D) N7.out (by rw [M16.out, D16.out]; exact Nat.le_refl _) (by rw [M16.out]; exact info16) (row8_one _) ?_; intro w9 b9 g9; rw [splice_all _ _ (by rw [M16.out, D16.out])] at b9; have N9 := Lib.hid b9; have R9 := Lib.hid (R7.out.grown g9 (fun q => by have e : (w.heap.size + 1) = w.heap.size := Option.some.inj q; omega)); have C9 := Lib.hid (C7.out.grown g9 (fun q => by have e : c = w.heap.size := Option.some.inj q; have := HCL.out; omega)); have B9 := Lib.hid (B7.out.grown g9 B7.out.size (fun k hk => by have e : w.heap.size = k := Option.some.inj hk; omega)); clear b9 g9 N7 R7 C7 B7)
          exact ⟨⟨n + 1, by omega, by go_num, by rw [<- HM.out]; exact N9.out, R9.out, C9.out, B9.out⟩, by simp [intOf]; omega⟩
      . have hltI : ¬ (n : Int) + 1 < 14 := by omega
        obtain rfl : n = 13 := by omega
        obtain ⟨D, hD⟩ : ∃ D, D = encTo (rk S) s 13 := ⟨_, rfl⟩
        have bD : Bytes 16 D := by rw [hD]; exact encTo_bytes HK.out HS.out 13
        obtain ⟨M, hM⟩ : ∃ M, M = ax (ss D) (rk S 14) := ⟨_, rfl⟩
        have bM : Bytes 16 M := by rw [hM]; exact ax_bytes (ss_bytes _) (HK.out 14)
        obtain ⟨E1, hE1⟩ : ∃ E, E = mpA box D := ⟨_, rfl⟩
        have bE1 : Bytes 16 E1 := by rw [hE1]; exact mpA_bytes _ box_byte _
        obtain ⟨E2, hE2⟩ : ∃ E, E = shA E1 := ⟨_, rfl⟩
        have bE2 : Bytes 16 E2 := by rw [hE2]; exact shA_bytes bE1
        have hM3 : M = ax E2 (rk S 14) := by rw [hM, hE2, hE1, ss_said]
        have HM := Lib.hid (show M = enc (rk S) s by rw [hM, hD]; rfl)
        rw [<- hD] at n0
        have N2 := Lib.hid n0
        have R2 := Lib.hid r0
        have C2 := Lib.hid c0
        have B2 := Lib.hid b0
        have HC1 := Lib.hid (fun W (hW : Below wr.heap.size wr W) => boxed_any D bD W (HXr.out.below hW))
        have HC2 := Lib.hid (fun W => shifted_any E1 bE1 W)
        have HC4 := Lib.hid (fun W => keyed_any E2 (rk S 14) bE2 (HK.out 14) W)
        rw [<- hE1] at HC1
        rw [<- hE2] at HC2
        rw [<- hM3] at HC4
        have D16 := Lib.hid (show (row8 D).length = 16 by rw [row8_len]; exact bD.1)
        have M16 := Lib.hid (show (row8 M).length = 16 by rw [row8_len]; exact bM.1)
        have R16 := Lib.hid (show (row8 (rk S 14)).length = 16 by rw [row8_len]; exact row_len _)
        clear hD hM hM3 hE1 hE2 bD bM bE1 bE2 n0 r0 c0 b0
        go_upto_region 8 with (fail)
        refine wp_region_g (by kernel_rfl) 9 (by decide) (by kernel_rfl) (by kernel_rfl) (by kernel_rfl) (wr.heap.size) (Nat.le_refl _) [.val (.agg (row8 D).toArray), .val (.agg (row8 E1).toArray), .val (.agg (row8 E2).toArray), .val (.pointer (some ⟨c, 0, none⟩)), .val (.pointer (some ⟨c, 0, none⟩)), .val (.pointer (some ⟨c, 0, none⟩)), .val (.pointer (some ⟨c, 224, none⟩)), .val (.agg (row8 (rk S 14)).toArray), .val (.agg (row8 M).toArray)] (fun _ => 10) ?_ ?_
        . refine ⟨?_, ?_, ?_, ?_, ?_, ?_, ?_, ?_, ?_, trivial⟩
          . intro a w' hF hB hd
            have e3 : a.eval (.tmp 3) = .pointer (some ⟨w.heap.size, 0, none⟩) := hF 3 (by decide +kernel)
            exact doesG_wp rfl rfl fun K' hK' => wp_load_mid 96 (.tmp 3) rfl w.heap.size 0 e3 (row8 D) _ ((N2.out.below hB N2.out.lt).range) Tryd.underlying96 rfl (by rw [D16.out]; exact info16) (hK' _ _ rfl (Below.refl _ _))
          . intro a w' hF hB hd
            have e31 : a.eval (.tmp 31) = .agg (row8 D).toArray := hd 0 (by decide +kernel) (.inr (by decide))
            exact doesG_call rfl (ex_call (vs := #[.agg (row8 D).toArray]) rfl (by simp only [List.map_toArray, List.map_cons, List.map_nil, e31]) (by go_simp)) rfl ((HC1.out w' hB).mono fun e w2 hh => ⟨_, hh.1, rfl, hh.2⟩)
          . intro a w' hF hB hd
            have e32 : a.eval (.tmp 32) = .agg (row8 E1).toArray := hd 1 (by decide +kernel) (.inr (by decide))
            exact doesG_call rfl (ex_call (vs := #[.agg (row8 E1).toArray]) rfl (by simp only [List.map_toArray, List.map_cons, List.map_nil, e32]) (by go_simp)) rfl ((HC2.out w').mono fun e w2 hh => ⟨_, hh.1, rfl, hh.2⟩)
          . intro a w' hF hB hd
            have e0 : a.eval (.tmp 0) = .pointer (some ⟨c, 0, none⟩) := hF 0 (by decide +kernel)
            exact doesG_val rfl (ex_move rfl e0) rfl rfl
          . intro a w' hF hB hd
            have e34 : a.eval (.tmp 34) = .pointer (some ⟨c, 0, none⟩) := hd 3 (by decide +kernel) (.inr (by decide))
            exact doesG_val rfl (v := .pointer (some ⟨c, 0, none⟩)) (by unfold execOp; simp only [e34]; go_simp) rfl rfl
          . intro a w' hF hB hd
            have e35 : a.eval (.tmp 35) = .pointer (some ⟨c, 0, none⟩) := hd 4 (by decide +kernel) (.inr (by decide))
            exact doesG_val rfl (v := .pointer (some ⟨c, 0, none⟩)) (by unfold execOp; simp only [e35]; go_simp) rfl rfl
          . intro a w' hF hB hd
            have e36 : a.eval (.tmp 36) = .pointer (some ⟨c, 0, none⟩) := hd 5 (by decide +kernel) (.inr (by decide))
            exact doesG_val rfl (v := .pointer (some ⟨c, 224, none⟩)) (by unfold execOp; simp only [e36]; go_simp) rfl rfl
          . intro a w' hF hB hd
            have e37 : a.eval (.tmp 37) = .pointer (some ⟨c, 224, none⟩) := hd 6 (by decide +kernel) (.inr (by decide))
            exact doesG_wp rfl rfl fun K' hK' => wp_load_mid 96 (.tmp 37) rfl c 224 e37 (row8 (rk S 14)) _ (range_part (C2.out.below hB C2.out.lt) 224 _ (rk_part HSL.out 14 (by omega))) Tryd.underlying96 rfl (by rw [R16.out]; exact info16) (hK' _ _ rfl (Below.refl _ _))
          . intro a w' hF hB hd
            have e33 : a.eval (.tmp 33) = .agg (row8 E2).toArray := hd 2 (by decide +kernel) (.inr (by decide))
            have e38 : a.eval (.tmp 38) = .agg (row8 (rk S 14)).toArray := hd 7 (by decide +kernel) (.inr (by decide))
            exact doesG_call rfl (ex_call (vs := #[.agg (row8 E2).toArray, .agg (row8 (rk S 14)).toArray]) rfl (by simp only [List.map_toArray, List.map_cons, List.map_nil, e33, e38]) (by go_simp)) rfl ((HC4.out w').mono fun e w2 hh => ⟨_, hh.1, rfl, hh.2⟩)
        . intro vs w7 hB hv hap
          have er : vs 8 = .agg (row8 M).toArray := hv 8 (by decide) (by decide)
          simp only [List.take_succ_cons, List.take_zero, List.drop_succ_cons, List.drop_zero, putOps, Act.put, List.setIfInBounds_toArray, List.set_cons_zero, List.set_cons_succ, er]
          have N7 := Lib.hid (N2.out.below hB N2.out.lt)
          have R7 := Lib.hid (R2.out.below hB R2.out.lt)
          have C7 := Lib.hid (C2.out.below hB C2.out.lt)
          have B7 := Lib.hid (B2.out.on hB)
          clear hv hap er hB N2 R2 C2 B2
          generalize vs 0 = v0 at *
          generalize vs 1 = v1 at *
          generalize vs 2 = v2 at *
          generalize vs 3 = v3 at *
          generalize vs 4 = v4 at *
          generalize vs 5 = v5 at *
          generalize vs 6 = v6 at *
          generalize vs 7 = v7 at *
          go_wp2_with (refine wpList_store_blk rfl 96 (.tmp 4) (.tmp 39) rfl (w.heap.size + 1) 0 (row8 M) rfl rfl 96 C0 R7.out (by rw [M16.out, hc0]; exact Nat.le_refl _) (by rw [M16.out]; exact info16) (row8_one _) ?_; intro w9 b9 g9; rw [splice_all _ _ (by rw [M16.out, hc0])] at b9; have R9 := Lib.hid b9; have N9 := Lib.hid (N7.out.grown g9 (fun q => by have e : w.heap.size = (w.heap.size + 1) := Option.some.inj q; omega)); have C9 := Lib.hid (C7.out.grown g9 (fun q => by have e : c = (w.heap.size + 1) := Option.some.inj q; have := HCL.out; omega)); have B9 := Lib.hid (B7.out.grown g9 B7.out.size (fun k hk => by have e : (w.heap.size + 1) = k := Option.some.inj hk; omega)); clear b9 g9 R7 N7 C7 B7)
          exact bodyPost_ret (v := .agg (row8 M).toArray) (results_mid rfl _ _ (w.heap.size + 1) (row8 M) _ rfl R9.out.range Tryd.underlying96 rfl (by rw [M16.out]; exact info16)) rfl ⟨by rw [HM.out], B9.out⟩
set_option maxRecDepth 100000 in
set_option maxHeartbeats 4000000 in
theorem cph_dec (K : List Nat) (c : Nat) (s : List Nat) (hs : Bytes 16 s) (w : World) (h : Cph w c K) (hx : TabU w) :
    Calls Tryd.prog 66 #[.pointer (some ⟨c, 0, none⟩), .agg (row8 s).toArray] w fun e w' => e = .returned (.agg (row8 (dec (rk (sched K)) s)).toArray) /\ Below w.heap.size w w' := by
  obtain ⟨hK, hcb⟩ := h
  obtain ⟨S, hS⟩ : ∃ S, S = sched K := ⟨_, rfl⟩
  rw [<- hS] at hcb ⊢
  have bS : Bytes 240 S := by rw [hS]; exact sched_bytes hK.2
  have hk : ∀ n, Bytes 16 (rk S n) := fun n => rk_bytes bS.2 n
  obtain ⟨C0, hC0⟩ : ∃ C0, C0 = row8 (List.replicate 16 0) := ⟨_, rfl⟩
  have hz : ∀ w, (zeroValue 96).run Tryd.prog w = .ok (.agg C0.toArray) w := by rw [hC0]; exact zero16
  have hc0 : C0.length = 16 := by rw [hC0, row8_len, List.length_replicate]
  have w1 := (Below.refl w.heap.size w).alloc (Nat.le_refl _) (.cells (row8 s).toArray 96)
  have w2 := w1.alloc w1.size (.cells C0.toArray 96)
  have N2 := Lib.hid ((Blk.new w 96 (row8 s) _ rfl).alloc (.cells C0.toArray 96))
  have R2 := Lib.hid (Blk.new (w.alloc (.cells (row8 s).toArray 96)) 96 C0 (w.heap.size + 1) (by simp))
  have C2 := Lib.hid ((hcb.alloc (.cells (row8 s).toArray 96)).alloc (.cells C0.toArray 96))
  have HCL := Lib.hid hcb.lt
  have B2 := Lib.hid w2
  have HK := Lib.hid hk
  have HSL := Lib.hid bS.1
  have HS := Lib.hid hs
  have HX := Lib.hid hx
  clear hC0 w1 w2 hK hS bS hk hs hx hcb
  go_enter Tryd.func66, Tryd.ntmps66
  go_upto_region 3 with (fail)
  obtain ⟨wr, hwr⟩ : ∃ W, W = (w.alloc (.cells (row8 s).toArray 96)).alloc (.cells C0.toArray 96) := ⟨_, rfl⟩
  rw [<- hwr] at N2 R2 C2 B2 ⊢
  clear hwr
  have HXr := Lib.hid (HX.out.below B2.out)
  obtain ⟨Da, hD⟩ : ∃ Da, Da = s := ⟨_, rfl⟩
  have bD : Bytes 16 Da := by rw [hD]; exact HS.out
  obtain ⟨Ma, hM⟩ : ∃ Ma, Ma = iss (ax Da (rk S 14)) := ⟨_, rfl⟩
  have bM : Bytes 16 Ma := by rw [hM]; exact iss_bytes _
  obtain ⟨Ea1, hE1⟩ : ∃ E, E = ax Da (rk S 14) := ⟨_, rfl⟩
  have bE1 : Bytes 16 Ea1 := by rw [hE1]; exact ax_bytes bD (HK.out 14)
  obtain ⟨Ea2, hE2⟩ : ∃ E, E = shB Ea1 := ⟨_, rfl⟩
  have bE2 : Bytes 16 Ea2 := by rw [hE2]; exact shB_bytes bE1
  have hM3 : Ma = mpA unb Ea2 := by rw [hM, hE2, iss_said, hE1]
  rw [<- hD] at N2
  have HM := Lib.hid (show Ma = decTo (rk S) s 1 by rw [hM, hD]; rfl)
  have HC1 := Lib.hid (fun W => keyed_any Da (rk S 14) bD (HK.out 14) W)
  have HC2 := Lib.hid (fun W => unshifted_any Ea1 bE1 W)
  have HC3 := Lib.hid (fun W (hW : Below wr.heap.size wr W) => unboxed_any Ea2 bE2 W (HXr.out.below hW))
  rw [<- hE1] at HC1
  rw [<- hE2] at HC2
  rw [<- hM3] at HC3
  have D16 := Lib.hid (show (row8 Da).length = 16 by rw [row8_len]; exact bD.1)
  have M16 := Lib.hid (show (row8 Ma).length = 16 by rw [row8_len]; exact bM.1)
  have R16 := Lib.hid (show (row8 (rk S 14)).length = 16 by rw [row8_len]; exact row_len _)
  clear hM hM3 bM hE1 hE2 bE1 bE2
  refine wp_region_g (by kernel_rfl) 9 (by decide) (by kernel_rfl) (by kernel_rfl) (by kernel_rfl) (wr.heap.size) (Nat.le_refl _) [.val (.agg (row8 Da).toArray), .val (.pointer (some ⟨c, 0, none⟩)), .val (.pointer (some ⟨c, 0, none⟩)), .val (.pointer (some ⟨c, 0, none⟩)), .val (.pointer (some ⟨c, 224, none⟩)), .val (.agg (row8 (rk S 14)).toArray), .val (.agg (row8 Ea1).toArray), .val (.agg (row8 Ea2).toArray), .val (.agg (row8 Ma).toArray)] (fun _ => 10) ?_ ?_
  . refine ⟨?_, ?_, ?_, ?_, ?_, ?_, ?_, ?_, ?_, trivial⟩
    . intro a w' hF hB hd
      have e3 : a.eval (.tmp 3) = .pointer (some ⟨w.heap.size, 0, none⟩) := hF 3 (by decide +kernel)
      exact doesG_wp rfl rfl fun K' hK' => wp_load_mid 96 (.tmp 3) rfl w.heap.size 0 e3 (row8 Da) _ ((N2.out.below hB N2.out.lt).range) Tryd.underlying96 rfl (by rw [D16.out]; exact info16) (hK' _ _ rfl (Below.refl _ _))
    . intro a w' hF hB hd
      have e0 : a.eval (.tmp 0) = .pointer (some ⟨c, 0, none⟩) := hF 0 (by decide +kernel)
      exact doesG_val rfl (ex_move rfl e0) rfl rfl
    . intro a w' hF hB hd
      have e10 : a.eval (.tmp 10) = .pointer (some ⟨c, 0, none⟩) := hd 1 (by decide +kernel) (.inr (by decide))
      exact doesG_val rfl (v := .pointer (some ⟨c, 0, none⟩)) (by unfold execOp; simp only [e10]; go_simp) rfl rfl
    . intro a w' hF hB hd
      have e11 : a.eval (.tmp 11) = .pointer (some ⟨c, 0, none⟩) := hd 2 (by decide +kernel) (.inr (by decide))
      exact doesG_val rfl (v := .pointer (some ⟨c, 0, none⟩)) (by unfold execOp; simp only [e11]; go_simp) rfl rfl
    . intro a w' hF hB hd
      have e12 : a.eval (.tmp 12) = .pointer (some ⟨c, 0, none⟩) := hd 3 (by decide +kernel) (.inr (by decide))
      exact doesG_val rfl (v := .pointer (some ⟨c, 224, none⟩)) (by unfold execOp; simp only [e12]; go_simp) rfl rfl
    . intro a w' hF hB hd
      have e13 : a.eval (.tmp 13) = .pointer (some ⟨c, 224, none⟩) := hd 4 (by decide +kernel) (.inr (by decide))
      exact doesG_wp rfl rfl fun K' hK' => wp_load_mid 96 (.tmp 13) rfl c 224 e13 (row8 (rk S 14)) _ (range_part (C2.out.below hB C2.out.lt) 224 _ (rk_part HSL.out 14 (by omega))) Tryd.underlying96 rfl (by rw [R16.out]; exact info16) (hK' _ _ rfl (Below.refl _ _))
    . intro a w' hF hB hd
      have e9 : a.eval (.tmp 9) = .agg (row8 Da).toArray := hd 0 (by decide +kernel) (.inr (by decide))
      have e14 : a.eval (.tmp 14) = .agg (row8 (rk S 14)).toArray := hd 5 (by decide +kernel) (.inr (by decide))
      exact doesG_call rfl (ex_call (vs := #[.agg (row8 Da).toArray, .agg (row8 (rk S 14)).toArray]) rfl (by simp only [List.map_toArray, List.map_cons, List.map_nil, e9, e14]) (by go_simp)) rfl ((HC1.out w').mono fun e w2 hh => ⟨_, hh.1, rfl, hh.2⟩)
    . intro a w' hF hB hd
      have e15 : a.eval (.tmp 15) = .agg (row8 Ea1).toArray := hd 6 (by decide +kernel) (.inr (by decide))
      exact doesG_call rfl (ex_call (vs := #[.agg (row8 Ea1).toArray]) rfl (by simp only [List.map_toArray, List.map_cons, List.map_nil, e15]) (by go_simp)) rfl ((HC2.out w').mono fun e w2 hh => ⟨_, hh.1, rfl, hh.2⟩)
    . intro a w' hF hB hd
      have e16 : a.eval (.tmp 16) = .agg (row8 Ea2).toArray := hd 7 (by decide +kernel) (.inr (by decide))
      exact doesG_call rfl (ex_call (vs := #[.agg (row8 Ea2).toArray]) rfl (by simp only [List.map_toArray, List.map_cons, List.map_nil, e16]) (by go_simp)) rfl ((HC3.out w' hB).mono fun e w2 hh => ⟨_, hh.1, rfl, hh.2⟩)
  . intro vs w7 hB hv hap
    have er : vs 8 = .agg (row8 Ma).toArray := hv 8 (by decide) (by decide)
    simp only [List.take_succ_cons, List.take_zero, List.drop_succ_cons, List.drop_zero, putOps, Act.put, List.setIfInBounds_toArray, List.set_cons_zero, List.set_cons_succ, er]
    have N7 := Lib.hid (N2.out.below hB N2.out.lt)
    have R7 := Lib.hid (R2.out.below hB R2.out.lt)
    have C7 := Lib.hid (C2.out.below hB C2.out.lt)
    have B7 := Lib.hid (B2.out.on hB)
    clear hv hap er hB N2 R2 C2 B2
    generalize vs 0 = v0 at *
    generalize vs 1 = v1 at *
    generalize vs 2 = v2 at *
    generalize vs 3 = v3 at *
    generalize vs 4 = v4 at *
    generalize vs 5 = v5 at *
    generalize vs 6 = v6 at *
    generalize vs 7 = v7 at *
    go_upto_region 5 with (refine wpList_store_blk rfl 96 (.tmp 3) (.tmp 17) rfl w.heap.size 0 (row8 Ma) rfl rfl 96 (row8 Da) N7.out (by rw [M16.out, D16.out]; exact Nat.le_refl _) (by rw [M16.out]; exact info16) (row8_one _) ?_; intro w9 b9 g9; rw [splice_all _ _ (by rw [M16.out, D16.out])] at b9; have N9 := Lib.hid b9; have R9 := Lib.hid (R7.out.grown g9 (fun q => by have e : (w.heap.size + 1) = w.heap.size := Option.some.inj q; omega)); have C9 := Lib.hid (C7.out.grown g9 (fun q => by have e : c = w.heap.size := Option.some.inj q; have := HCL.out; omega)); have B9 := Lib.hid (B7.out.grown g9 B7.out.size (fun k hk => by have e : w.heap.size = k := Option.some.inj hk; omega)); clear b9 g9 N7 R7 C7 B7)
    rw [HM.out] at N9
    clear HM M16 D16 R16 HC1 HC2 HC3 bD HXr
    go_loopw [5] (fun x wr => ∃ m : Nat, m <= 13 /\ x = .int .i64 (m : Int) /\ Blk wr w.heap.size 96 (row8 (decTo (rk S) s (14 - m))) /\ Blk wr (w.heap.size + 1) 96 C0 /\ Blk wr c 100 (row8 S) /\ Below w.heap.size w wr) (fun x _ => (intOf x).toNat)
    case atStart => exact ⟨13, by omega, rfl, N9.out, R9.out, C9.out, B9.out⟩
    case round =>
      clear N9 R9 C9 B9
      obtain ⟨m, hm, rfl, n0, r0, c0, b0⟩ := hrel
      have HXr := Lib.hid (HX.out.below b0)
      by_cases hlt : 0 < m
      . have hltI : (0 : Int) < (m : Int) := by omega
        obtain ⟨D, hD⟩ : ∃ D, D = decTo (rk S) s (14 - m) := ⟨_, rfl⟩
        have bD : Bytes 16 D := by rw [hD]; exact decTo_bytes HS.out _
        obtain ⟨M, hM⟩ : ∃ M, M = iss (imx (ax D (rk S m))) := ⟨_, rfl⟩
        have bM : Bytes 16 M := by rw [hM]; exact iss_bytes _
        obtain ⟨E1, hE1⟩ : ∃ E, E = ax D (rk S m) := ⟨_, rfl⟩
        have bE1 : Bytes 16 E1 := by rw [hE1]; exact ax_bytes bD (HK.out m)
        obtain ⟨E2, hE2⟩ : ∃ E, E = imx E1 := ⟨_, rfl⟩
        have bE2 : Bytes 16 E2 := by rw [hE2]; exact imx_bytes _
        obtain ⟨E3, hE3⟩ : ∃ E, E = shB E2 := ⟨_, rfl⟩
        have bE3 : Bytes 16 E3 := by rw [hE3]; exact shB_bytes bE2
        have hM3 : M = mpA unb E3 := by rw [hM, hE3, iss_said, hE2, hE1]
        have HM := Lib.hid (show M = decTo (rk S) s (14 - (m - 1)) by rw [hM, hD]; exact (decTo_step _ _ m hlt hm).symm)
        rw [<- hD] at n0
        have N2 := Lib.hid n0
        have R2 := Lib.hid r0
        have C2 := Lib.hid c0
        have B2 := Lib.hid b0
        have HC1 := Lib.hid (fun W => keyed_any D (rk S m) bD (HK.out m) W)
        have HC2 := Lib.hid (fun W => unmixed_any E1 bE1 W)
        have HC3 := Lib.hid (fun W => unshifted_any E2 bE2 W)
        have HC4 := Lib.hid (fun W (hW : Below wr.heap.size wr W) => unboxed_any E3 bE3 W (HXr.out.below hW))
        rw [<- hE1] at HC1
        rw [<- hE2] at HC2
        rw [<- hE3] at HC3
        rw [<- hM3] at HC4
        have D16 := Lib.hid (show (row8 D).length = 16 by rw [row8_len]; exact bD.1)
        have M16 := Lib.hid (show (row8 M).length = 16 by rw [row8_len]; exact bM.1)
        have R16 := Lib.hid (show (row8 (rk S m)).length = 16 by rw [row8_len]; exact row_len _)
        clear hD hM hM3 hE1 hE2 hE3 bD bM bE1 bE2 bE3 n0 r0 c0 b0
        have z1 : (m : Int) < 15 := by omega
        go_upto_region 7 with (fail)
        refine wp_region_g (by kernel_rfl) 11 (by decide) (by kernel_rfl) (by kernel_rfl) (by kernel_rfl) (wr.heap.size) (Nat.le_refl _) [.val (.agg (row8 D).toArray), .val (.pointer (some ⟨c, 0, none⟩)), .val (.int .i64 (m : Int)), .val (.pointer (some ⟨c, 0, none⟩)), .val (.pointer (some ⟨c, 0, none⟩)), .val (.pointer (some ⟨c, 16 * m, none⟩)), .val (.agg (row8 (rk S m)).toArray), .val (.agg (row8 E1).toArray), .val (.agg (row8 E2).toArray), .val (.agg (row8 E3).toArray), .val (.agg (row8 M).toArray)] (fun _ => 12) ?_ ?_
        . refine ⟨?_, ?_, ?_, ?_, ?_, ?_, ?_, ?_, ?_, ?_, ?_, trivial⟩
          . intro a w' hF hB hd
            have e3 : a.eval (.tmp 3) = .pointer (some ⟨w.heap.size, 0, none⟩) := hF 3 (by decide +kernel)
            exact doesG_wp rfl rfl fun K' hK' => wp_load_mid 96 (.tmp 3) rfl w.heap.size 0 e3 (row8 D) _ ((N2.out.below hB N2.out.lt).range) Tryd.underlying96 rfl (by rw [D16.out]; exact info16) (hK' _ _ rfl (Below.refl _ _))
          . intro a w' hF hB hd
            have e0 : a.eval (.tmp 0) = .pointer (some ⟨c, 0, none⟩) := hF 0 (by decide +kernel)
            exact doesG_val rfl (ex_move rfl e0) rfl rfl
          . intro a w' hF hB hd
            have e5 : a.eval (.tmp 5) = .int .i64 (m : Int) := hF 5 (by decide +kernel)
            exact doesG_val rfl (ex_move rfl e5) rfl rfl
          . intro a w' hF hB hd
            have e23 : a.eval (.tmp 23) = .pointer (some ⟨c, 0, none⟩) := hd 1 (by decide +kernel) (.inr (by decide))
            exact doesG_val rfl (v := .pointer (some ⟨c, 0, none⟩)) (by unfold execOp; simp only [e23]; go_simp) rfl rfl
          . intro a w' hF hB hd
            have e25 : a.eval (.tmp 25) = .pointer (some ⟨c, 0, none⟩) := hd 3 (by decide +kernel) (.inr (by decide))
            exact doesG_val rfl (v := .pointer (some ⟨c, 0, none⟩)) (by unfold execOp; simp only [e25]; go_simp) rfl rfl
          . intro a w' hF hB hd
            have e26 : a.eval (.tmp 26) = .pointer (some ⟨c, 0, none⟩) := hd 4 (by decide +kernel) (.inr (by decide))
            have e24 : a.eval (.tmp 24) = .int .i64 (m : Int) := hd 2 (by decide +kernel) (.inr (by decide))
            exact doesG_val rfl (v := .pointer (some ⟨c, 16 * m, none⟩)) (by unfold execOp; simp only [e26, e24]; go_simp; try omega) rfl rfl
          . intro a w' hF hB hd
            have e27 : a.eval (.tmp 27) = .pointer (some ⟨c, 16 * m, none⟩) := hd 5 (by decide +kernel) (.inr (by decide))
            exact doesG_wp rfl rfl fun K' hK' => wp_load_mid 96 (.tmp 27) rfl c (16 * m) e27 (row8 (rk S m)) _ (range_part (C2.out.below hB C2.out.lt) (16 * m) _ (rk_part HSL.out m (by omega))) Tryd.underlying96 rfl (by rw [R16.out]; exact info16) (hK' _ _ rfl (Below.refl _ _))
          . intro a w' hF hB hd
            have e22 : a.eval (.tmp 22) = .agg (row8 D).toArray := hd 0 (by decide +kernel) (.inr (by decide))
            have e28 : a.eval (.tmp 28) = .agg (row8 (rk S m)).toArray := hd 6 (by decide +kernel) (.inr (by decide))
            exact doesG_call rfl (ex_call (vs := #[.agg (row8 D).toArray, .agg (row8 (rk S m)).toArray]) rfl (by simp only [List.map_toArray, List.map_cons, List.map_nil, e22, e28]) (by go_simp)) rfl ((HC1.out w').mono fun e w2 hh => ⟨_, hh.1, rfl, hh.2⟩)
          . intro a w' hF hB hd
            have e29 : a.eval (.tmp 29) = .agg (row8 E1).toArray := hd 7 (by decide +kernel) (.inr (by decide))
            exact doesG_call rfl (ex_call (vs := #[.agg (row8 E1).toArray]) rfl (by simp only [List.map_toArray, List.map_cons, List.map_nil, e29]) (by go_simp)) rfl ((HC2.out w').mono fun e w2 hh => ⟨_, hh.1, rfl, hh.2⟩)
          . intro a w' hF hB hd
            have e30 : a.eval (.tmp 30) = .agg (row8 E2).toArray := hd 8 (by decide +kernel) (.inr (by decide))
            exact doesG_call rfl (ex_call (vs := #[.agg (row8 E2).toArray]) rfl (by simp only [List.map_toArray, List.map_cons, List.map_nil, e30]) (by go_simp)) rfl ((HC3.out w').mono fun e w2 hh => ⟨_, hh.1, rfl, hh.2⟩)
          . intro a w' hF hB hd
            have e31 : a.eval (.tmp 31) = .agg (row8 E3).toArray := hd 9 (by decide +kernel) (.inr (by decide))
            exact doesG_call rfl (ex_call (vs := #[.agg (row8 E3).toArray]) rfl (by simp only [List.map_toArray, List.map_cons, List.map_nil, e31]) (by go_simp)) rfl ((HC4.out w' hB).mono fun e w2 hh => ⟨_, hh.1, rfl, hh.2⟩)
        . intro vs w7 hB hv hap
          have er : vs 10 = .agg (row8 M).toArray := hv 10 (by decide) (by decide)
          simp only [List.take_succ_cons, List.take_zero, List.drop_succ_cons, List.drop_zero, putOps, Act.put, List.setIfInBounds_toArray, List.set_cons_zero, List.set_cons_succ, er]
          have N7 := Lib.hid (N2.out.below hB N2.out.lt)
          have R7 := Lib.hid (R2.out.below hB R2.out.lt)
          have C7 := Lib.hid (C2.out.below hB C2.out.lt)
          have B7 := Lib.hid (B2.out.on hB)
          clear hv hap er hB N2 R2 C2 B2
          generalize vs 0 = v0 at *
          generalize vs 1 = v1 at *
          generalize vs 2 = v2 at *
          generalize vs 3 = v3 at *
          generalize vs 4 = v4 at *
          generalize vs 5 = v5 at *
          generalize vs 6 = v6 at *
          generalize vs 7 = v7 at *
          generalize vs 8 = v8 at *
          generalize vs 9 = v9 at *
          go_wp2_with (refine wpList_store_blk rfl 96 (.tmp 3) (.tmp 32) rfl w.heap.size 0 (row8 M) rfl rfl 96 (row8 D) N7.out (by rw [M16.out, D16.out]; exact Nat.le_refl _) (by rw [M16.out]; exact info16) (row8_one _) ?_; intro w9 b9 g9; rw [splice_all _ _ (by rw [M16.out, D16.out])] at b9; have N9 := Lib.hid b9; have R9 := Lib.hid (R7.out.grown g9 (fun q => by have e : (w.heap.size + 1) = w.heap.size := Option.some.inj q; omega)); have C9 := Lib.hid (C7.out.grown g9 (fun q => by have e : c = w.heap.size := Option.some.inj q; have := HCL.out; omega)); have B9 := Lib.hid (B7.out.grown g9 B7.out.size (fun k hk => by have e : w.heap.size = k := Option.some.inj hk; omega)); clear b9 g9 N7 R7 C7 B7)
          exact ⟨⟨m - 1, by omega, by go_num, by rw [<- HM.out]; exact N9.out, R9.out, C9.out, B9.out⟩, by simp [intOf]; omega⟩
      . have hltI : ¬ (0 : Int) < (m : Int) := by omega
        obtain rfl : m = 0 := by omega
        obtain ⟨D, hD⟩ : ∃ D, D = decTo (rk S) s 14 := ⟨_, rfl⟩
        have bD : Bytes 16 D := by rw [hD]; exact decTo_bytes HS.out _
        obtain ⟨M, hM⟩ : ∃ M, M = ax D (rk S 0) := ⟨_, rfl⟩
        have bM : Bytes 16 M := by rw [hM]; exact ax_bytes bD (HK.out 0)
        have HM := Lib.hid (show M = dec (rk S) s by rw [hM, hD]; rfl)
        rw [show 14 - 0 = 14 from rfl, <- hD] at n0
        have N2 := Lib.hid n0
        have R2 := Lib.hid r0
        have C2 := Lib.hid c0
        have B2 := Lib.hid b0
        have HC1 := Lib.hid (fun W => keyed_any D (rk S 0) bD (HK.out 0) W)
        rw [<- hM] at HC1
        have D16 := Lib.hid (show (row8 D).length = 16 by rw [row8_len]; exact bD.1)
        have M16 := Lib.hid (show (row8 M).length = 16 by rw [row8_len]; exact bM.1)
        have R16 := Lib.hid (show (row8 (rk S 0)).length = 16 by rw [row8_len]; exact row_len _)
        clear hD hM bD bM n0 r0 c0 b0
        go_upto_region 8 with (fail)
        refine wp_region_g (by kernel_rfl) 7 (by decide) (by kernel_rfl) (by kernel_rfl) (by kernel_rfl) (wr.heap.size) (Nat.le_refl _) [.val (.agg (row8 D).toArray), .val (.pointer (some ⟨c, 0, none⟩)), .val (.pointer (some ⟨c, 0, none⟩)), .val (.pointer (some ⟨c, 0, none⟩)), .val (.pointer (some ⟨c, 0, none⟩)), .val (.agg (row8 (rk S 0)).toArray), .val (.agg (row8 M).toArray)] (fun _ => 8) ?_ ?_
        . refine ⟨?_, ?_, ?_, ?_, ?_, ?_, ?_, trivial⟩
          . intro a w' hF hB hd
            have e3 : a.eval (.tmp 3) = .pointer (some ⟨w.heap.size, 0, none⟩) := hF 3 (by decide +kernel)
            exact doesG_wp rfl rfl fun K' hK' => wp_load_mid 96 (.tmp 3) rfl w.heap.size 0 e3 (row8 D) _ ((N2.out.below hB N2.out.lt).range) Tryd.underlying96 rfl (by rw [D16.out]; exact info16) (hK' _ _ rfl (Below.refl _ _))
          . intro a w' hF hB hd
            have e0 : a.eval (.tmp 0) = .pointer (some ⟨c, 0, none⟩) := hF 0 (by decide +kernel)
            exact doesG_val rfl (ex_move rfl e0) rfl rfl
          . intro a w' hF hB hd
            have e34 : a.eval (.tmp 34) = .pointer (some ⟨c, 0, none⟩) := hd 1 (by decide +kernel) (.inr (by decide))
            exact doesG_val rfl (v := .pointer (some ⟨c, 0, none⟩)) (by unfold execOp; simp only [e34]; go_simp) rfl rfl
          . intro a w' hF hB hd
            have e35 : a.eval (.tmp 35) = .pointer (some ⟨c, 0, none⟩) := hd 2 (by decide +kernel) (.inr (by decide))
            exact doesG_val rfl (v := .pointer (some ⟨c, 0, none⟩)) (by unfold execOp; simp only [e35]; go_simp) rfl rfl
          . intro a w' hF hB hd
            have e36 : a.eval (.tmp 36) = .pointer (some ⟨c, 0, none⟩) := hd 3 (by decide +kernel) (.inr (by decide))
            exact doesG_val rfl (v := .pointer (some ⟨c, 0, none⟩)) (by unfold execOp; simp only [e36]; go_simp) rfl rfl
          . intro a w' hF hB hd
            have e37 : a.eval (.tmp 37) = .pointer (some ⟨c, 0, none⟩) := hd 4 (by decide +kernel) (.inr (by decide))
            exact doesG_wp rfl rfl fun K' hK' => wp_load_mid 96 (.tmp 37) rfl c 0 e37 (row8 (rk S 0)) _ ((by have h := range_part (C2.out.below hB C2.out.lt) 0 _ (fun j v h => by have := rk_part HSL.out 0 (by omega) j v h; simpa using this); exact h)) Tryd.underlying96 rfl (by rw [R16.out]; exact info16) (hK' _ _ rfl (Below.refl _ _))
          . intro a w' hF hB hd
            have e33 : a.eval (.tmp 33) = .agg (row8 D).toArray := hd 0 (by decide +kernel) (.inr (by decide))
            have e38 : a.eval (.tmp 38) = .agg (row8 (rk S 0)).toArray := hd 5 (by decide +kernel) (.inr (by decide))
            exact doesG_call rfl (ex_call (vs := #[.agg (row8 D).toArray, .agg (row8 (rk S 0)).toArray]) rfl (by simp only [List.map_toArray, List.map_cons, List.map_nil, e33, e38]) (by go_simp)) rfl ((HC1.out w').mono fun e w2 hh => ⟨_, hh.1, rfl, hh.2⟩)
        . intro vs w7 hB hv hap
          have er : vs 6 = .agg (row8 M).toArray := hv 6 (by decide) (by decide)
          simp only [List.take_succ_cons, List.take_zero, List.drop_succ_cons, List.drop_zero, putOps, Act.put, List.setIfInBounds_toArray, List.set_cons_zero, List.set_cons_succ, er]
          have N7 := Lib.hid (N2.out.below hB N2.out.lt)
          have R7 := Lib.hid (R2.out.below hB R2.out.lt)
          have C7 := Lib.hid (C2.out.below hB C2.out.lt)
          have B7 := Lib.hid (B2.out.on hB)
          clear hv hap er hB N2 R2 C2 B2
          generalize vs 0 = v0 at *
          generalize vs 1 = v1 at *
          generalize vs 2 = v2 at *
          generalize vs 3 = v3 at *
          generalize vs 4 = v4 at *
          generalize vs 5 = v5 at *
          go_wp2_with (refine wpList_store_blk rfl 96 (.tmp 4) (.tmp 39) rfl (w.heap.size + 1) 0 (row8 M) rfl rfl 96 C0 R7.out (by rw [M16.out, hc0]; exact Nat.le_refl _) (by rw [M16.out]; exact info16) (row8_one _) ?_; intro w9 b9 g9; rw [splice_all _ _ (by rw [M16.out, hc0])] at b9; have R9 := Lib.hid b9; have N9 := Lib.hid (N7.out.grown g9 (fun q => by have e : w.heap.size = (w.heap.size + 1) := Option.some.inj q; omega)); have C9 := Lib.hid (C7.out.grown g9 (fun q => by have e : c = (w.heap.size + 1) := Option.some.inj q; have := HCL.out; omega)); have B9 := Lib.hid (B7.out.grown g9 B7.out.size (fun k hk => by have e : (w.heap.size + 1) = k := Option.some.inj hk; omega)); clear b9 g9 R7 N7 C7 B7)
          exact bodyPost_ret (v := .agg (row8 M).toArray) (results_mid rfl _ _ (w.heap.size + 1) (row8 M) _ rfl R9.out.range Tryd.underlying96 rfl (by rw [M16.out]; exact info16)) rfl ⟨by rw [HM.out], B9.out⟩
end Go.Proofs.YtflnodkajhokhaaDoor
namespace Go.Proofs.YtflnodkajhokhaaDoor
open Go.ChangeShapes Go.WideShapes Go.ChangeAt Go.RowKit
open AM FM
def chg (Y : List Nat) (i : Nat) : List Nat :=
  if i % 8 = 0 then [box (gb Y 1) ^^^ power 2 ((i / 8 - 1 : Nat) : Int), box (gb Y 2), box (gb Y 3), box (gb Y 0)]
  else if i % 8 = 4 then [box (gb Y 0), box (gb Y 1), box (gb Y 2), box (gb Y 3)]
  else Y
theorem wt_chg (S : List Nat) (i : Nat) : wt S i = chg (w4 S (i - 1)) i := by
  unfold wt chg
  rfl
theorem chg_bytes {Y : List Nat} (h : Bytes 4 Y) (i : Nat) : Bytes 4 (chg Y i) := by
  unfold chg
  split
  . exact bytes4 (lt_of_xor (box_byte _) (power_lt _ _)) (box_byte _) (box_byte _) (box_byte _)
  split
  . exact bytes4 (box_byte _) (box_byte _) (box_byte _) (box_byte _)
  . exact h
theorem infoW : (Tryd.prog.info? 121).map (·.size) = some 4 := by kernel_rfl
theorem zeroWd (w : World) : (zeroValue 121).run Tryd.prog w = .ok (.agg (row8 [0, 0, 0, 0]).toArray) w := by kernel_rfl
theorem four_list (Y : List Nat) (h : Y.length = 4) : Y = [gb Y 0, gb Y 1, gb Y 2, gb Y 3] := by
  match Y, h with
  | [_, _, _, _], _ => rfl
set_option maxRecDepth 100000 in
set_option maxHeartbeats 4000000 in
theorem changed_any (Y : List Nat) (hy : Bytes 4 Y) (i : Nat) (h8 : 8 <= i) (h60 : i < 60) (w : World) (hx : TabX w) :
    Calls Tryd.prog 72 #[.agg (row8 Y).toArray, .int .i64 (i : Int)] w fun e w' => e = .returned (.agg (row8 (chg Y i)).toArray) /\ Below w.heap.size w w' := by
  obtain ⟨C0, hC0⟩ : ∃ C0, C0 = row8 [0, 0, 0, 0] := ⟨_, rfl⟩
  have hz : ∀ w, (zeroValue 121).run Tryd.prog w = .ok (.agg C0.toArray) w := by rw [hC0]; exact zeroWd
  have hc0 : C0.length = 4 := by rw [hC0]; rfl
  obtain ⟨wr, hwr⟩ : ∃ W, W = (w.alloc (.cells (row8 Y).toArray 121)).alloc (.cells C0.toArray 121) := ⟨_, rfl⟩
  have w1 := (Below.refl w.heap.size w).alloc (Nat.le_refl _) (.cells (row8 Y).toArray 121)
  have w2 := w1.alloc w1.size (.cells C0.toArray 121)
  have N5 := Lib.hid ((Blk.new w 121 (row8 Y) _ rfl).alloc (.cells C0.toArray 121))
  have R5 := Lib.hid (Blk.new (w.alloc (.cells (row8 Y).toArray 121)) 121 C0 (w.heap.size + 1) (by simp))
  rw [<- hwr] at w2 N5 R5
  have B5 := Lib.hid w2
  have HXr := Lib.hid (hx.below w2)
  obtain ⟨Z, hZ⟩ : ∃ Z, Z = chg Y i := ⟨_, rfl⟩
  have bZ : Bytes 4 Z := by rw [hZ]; exact chg_bytes hy i
  rw [<- hZ]
  have Z4 := Lib.hid (show (row8 Z).length = 4 by rw [row8_len]; exact bZ.1)
  have Y4 := Lib.hid (show (row8 Y).length = 4 by rw [row8_len]; exact hy.1)
  obtain ⟨y0, hy0⟩ : ∃ y, y = gb Y 0 := ⟨_, rfl⟩
  obtain ⟨y1, hy1⟩ : ∃ y, y = gb Y 1 := ⟨_, rfl⟩
  obtain ⟨y2, hy2⟩ : ∃ y, y = gb Y 2 := ⟨_, rfl⟩
  obtain ⟨y3, hy3⟩ : ∃ y, y = gb Y 3 := ⟨_, rfl⟩
  have l0 : y0 < 256 := by rw [hy0]; exact hy.2 _
  have l1 : y1 < 256 := by rw [hy1]; exact hy.2 _
  have l2 : y2 < 256 := by rw [hy2]; exact hy.2 _
  have l3 : y3 < 256 := by rw [hy3]; exact hy.2 _
  have HY := Lib.hid (show Y = [y0, y1, y2, y3] by rw [hy0, hy1, hy2, hy3]; exact four_list Y hy.1)
  unfold chg at hZ
  rw [<- hy0, <- hy1, <- hy2, <- hy3] at hZ
  have HWR := Lib.hid hwr
  clear hC0 w1 w2 hx bZ hy0 hy1 hy2 hy3 hy hwr
  by_cases m0 : i % 8 = 0
  . have mb : ((i : Int) % 8 == 0) = true := by simp; omega
    rw [if_pos m0] at hZ
    obtain ⟨p, hp⟩ : ∃ p, p = power 2 ((i / 8 - 1 : Nat) : Int) := ⟨_, rfl⟩
    rw [<- hp] at hZ
    have lp : p < 256 := by rw [hp]; exact power_lt _ _
    have HPW := Lib.hid (show ∀ W, Calls Tryd.prog 88 #[.int .u8 2, .int .i64 ((i : Int) / 8 - 1)] W fun e w' => e = .returned (.int .u8 (p : Int)) /\ W = w' from fun W => by
      rw [hp, show ((i : Int) / 8 - 1) = ((i / 8 - 1 : Nat) : Int) by omega]; exact power_any 2 _ (by omega) W)
    have HZ := Lib.hid hZ
    clear hZ hp
    go_enter Tryd.func72, Tryd.ntmps72
    go_upto_region 4 with (go_at_call 88; (with_reducible refine (HPW.out _).mono ?_); rintro e w9 ⟨rfl, rfl⟩)
    rw [<- HWR.out]
    clear hz
    refine wp_region_g (by kernel_rfl) 15 (by decide) (by kernel_rfl) (by kernel_rfl) (by kernel_rfl) (wr.heap.size) (Nat.le_refl _) [.val (.pointer (some ⟨w.heap.size, 1, none⟩)), .val (.int .u8 (y1 : Int)), .val (.int .u8 ((box y1 : Nat) : Int)), .val (.int .u8 (p : Int)), .val (.int .u8 ((box y1 ^^^ p : Nat) : Int)), .val (.pointer (some ⟨w.heap.size, 2, none⟩)), .val (.int .u8 (y2 : Int)), .val (.int .u8 ((box y2 : Nat) : Int)), .val (.pointer (some ⟨w.heap.size, 3, none⟩)), .val (.int .u8 (y3 : Int)), .val (.int .u8 ((box y3 : Nat) : Int)), .val (.pointer (some ⟨w.heap.size, 0, none⟩)), .val (.int .u8 (y0 : Int)), .val (.int .u8 ((box y0 : Nat) : Int)), .val (.agg (row8 Z).toArray)] (fun _ => 16) ?_ ?_
    . refine ⟨?_, ?_, ?_, ?_, ?_, ?_, ?_, ?_, ?_, ?_, ?_, ?_, ?_, ?_, ?_, trivial⟩
      . intro a w' hF hB hd
        have e2 : a.eval (.tmp 2) = .pointer (some ⟨w.heap.size, 0, none⟩) := hF 2 (by decide +kernel)
        exact doesG_val rfl (v := .pointer (some ⟨w.heap.size, 1, none⟩)) (by unfold execOp; simp only [e2]; go_simp) rfl rfl
      . intro a w' hF hB hd
        have e14 : a.eval (.tmp 14) = .pointer (some ⟨w.heap.size, 1, none⟩) := hd 0 (by decide +kernel) (.inr (by decide))
        have c := (N5.out.below hB N5.out.lt).cell 1 (.int .u8 (y1 : Int)) (by rw [HY.out]; rfl)
        exact doesG_val rfl (v := .int .u8 (y1 : Int)) (by unfold execOp; simp only [e14]; go_simp) rfl rfl
      . intro a w' hF hB hd
        have e15 : a.eval (.tmp 15) = .int .u8 (y1 : Int) := hd 1 (by decide +kernel) (.inr (by decide))
        exact doesG_call rfl (ex_call (vs := #[.int .u8 (y1 : Int)]) rfl (by simp only [List.map_toArray, List.map_cons, List.map_nil, e15]) (by go_simp)) rfl ((sbox_any y1 l1 w' (HXr.out.below hB)).mono fun e w2 hh => ⟨_, hh.1, rfl, hh.2⟩)
      . intro a w' hF hB hd
        have e5 : a.eval (.tmp 5) = .int .u8 (p : Int) := hF 5 (by decide +kernel)
        exact doesG_val rfl (ex_move rfl e5) rfl rfl
      . intro a w' hF hB hd
        have e16 : a.eval (.tmp 16) = .int .u8 ((box y1 : Nat) : Int) := hd 2 (by decide +kernel) (.inr (by decide))
        have e17 : a.eval (.tmp 17) = .int .u8 (p : Int) := hd 3 (by decide +kernel) (.inr (by decide))
        have hx := u8_xor_nat (box y1) p (box_byte _) lp
        exact doesG_val rfl (v := .int .u8 ((box y1 ^^^ p : Nat) : Int)) (by unfold execOp; simp only [e16, e17]; go_simp) rfl rfl
      . intro a w' hF hB hd
        have e2 : a.eval (.tmp 2) = .pointer (some ⟨w.heap.size, 0, none⟩) := hF 2 (by decide +kernel)
        exact doesG_val rfl (v := .pointer (some ⟨w.heap.size, 2, none⟩)) (by unfold execOp; simp only [e2]; go_simp) rfl rfl
      . intro a w' hF hB hd
        have e19 : a.eval (.tmp 19) = .pointer (some ⟨w.heap.size, 2, none⟩) := hd 5 (by decide +kernel) (.inr (by decide))
        have c := (N5.out.below hB N5.out.lt).cell 2 (.int .u8 (y2 : Int)) (by rw [HY.out]; rfl)
        exact doesG_val rfl (v := .int .u8 (y2 : Int)) (by unfold execOp; simp only [e19]; go_simp) rfl rfl
      . intro a w' hF hB hd
        have e20 : a.eval (.tmp 20) = .int .u8 (y2 : Int) := hd 6 (by decide +kernel) (.inr (by decide))
        exact doesG_call rfl (ex_call (vs := #[.int .u8 (y2 : Int)]) rfl (by simp only [List.map_toArray, List.map_cons, List.map_nil, e20]) (by go_simp)) rfl ((sbox_any y2 l2 w' (HXr.out.below hB)).mono fun e w2 hh => ⟨_, hh.1, rfl, hh.2⟩)
      . intro a w' hF hB hd
        have e2 : a.eval (.tmp 2) = .pointer (some ⟨w.heap.size, 0, none⟩) := hF 2 (by decide +kernel)
        exact doesG_val rfl (v := .pointer (some ⟨w.heap.size, 3, none⟩)) (by unfold execOp; simp only [e2]; go_simp) rfl rfl
      . intro a w' hF hB hd
        have e22 : a.eval (.tmp 22) = .pointer (some ⟨w.heap.size, 3, none⟩) := hd 8 (by decide +kernel) (.inr (by decide))
        have c := (N5.out.below hB N5.out.lt).cell 3 (.int .u8 (y3 : Int)) (by rw [HY.out]; rfl)
        exact doesG_val rfl (v := .int .u8 (y3 : Int)) (by unfold execOp; simp only [e22]; go_simp) rfl rfl
      . intro a w' hF hB hd
        have e23 : a.eval (.tmp 23) = .int .u8 (y3 : Int) := hd 9 (by decide +kernel) (.inr (by decide))
        exact doesG_call rfl (ex_call (vs := #[.int .u8 (y3 : Int)]) rfl (by simp only [List.map_toArray, List.map_cons, List.map_nil, e23]) (by go_simp)) rfl ((sbox_any y3 l3 w' (HXr.out.below hB)).mono fun e w2 hh => ⟨_, hh.1, rfl, hh.2⟩)
      . intro a w' hF hB hd
        have e2 : a.eval (.tmp 2) = .pointer (some ⟨w.heap.size, 0, none⟩) := hF 2 (by decide +kernel)
        exact doesG_val rfl (v := .pointer (some ⟨w.heap.size, 0, none⟩)) (by unfold execOp; simp only [e2]; go_simp) rfl rfl
      . intro a w' hF hB hd
        have e25 : a.eval (.tmp 25) = .pointer (some ⟨w.heap.size, 0, none⟩) := hd 11 (by decide +kernel) (.inr (by decide))
        have c := (N5.out.below hB N5.out.lt).cell 0 (.int .u8 (y0 : Int)) (by rw [HY.out]; rfl)
        exact doesG_val rfl (v := .int .u8 (y0 : Int)) (by unfold execOp; simp only [e25]; go_simp) rfl rfl
      . intro a w' hF hB hd
        have e26 : a.eval (.tmp 26) = .int .u8 (y0 : Int) := hd 12 (by decide +kernel) (.inr (by decide))
        exact doesG_call rfl (ex_call (vs := #[.int .u8 (y0 : Int)]) rfl (by simp only [List.map_toArray, List.map_cons, List.map_nil, e26]) (by go_simp)) rfl ((sbox_any y0 l0 w' (HXr.out.below hB)).mono fun e w2 hh => ⟨_, hh.1, rfl, hh.2⟩)
      . intro a w' hF hB hd
        have e18 : a.eval (.tmp 18) = .int .u8 ((box y1 ^^^ p : Nat) : Int) := hd 4 (by decide +kernel) (.inr (by decide))
        have e21 : a.eval (.tmp 21) = .int .u8 ((box y2 : Nat) : Int) := hd 7 (by decide +kernel) (.inr (by decide))
        have e24 : a.eval (.tmp 24) = .int .u8 ((box y3 : Nat) : Int) := hd 10 (by decide +kernel) (.inr (by decide))
        have e27 : a.eval (.tmp 27) = .int .u8 ((box y0 : Nat) : Int) := hd 13 (by decide +kernel) (.inr (by decide))
        have f18 : a.tmps[18]?.getD undef = .int .u8 ((box y1 ^^^ p : Nat) : Int) := by rw [<- Array.getD_eq_getD_getElem?]; exact e18
        have f21 : a.tmps[21]?.getD undef = .int .u8 ((box y2 : Nat) : Int) := by rw [<- Array.getD_eq_getD_getElem?]; exact e21
        have f24 : a.tmps[24]?.getD undef = .int .u8 ((box y3 : Nat) : Int) := by rw [<- Array.getD_eq_getD_getElem?]; exact e24
        have f27 : a.tmps[27]?.getD undef = .int .u8 ((box y0 : Nat) : Int) := by rw [<- Array.getD_eq_getD_getElem?]; exact e27
        exact doesG_val rfl (v := .agg (row8 Z).toArray) (by rw [HZ.out]; unfold execOp; go_simp; rfl) rfl rfl
    . intro vs w6 hB hv hap
      have er : vs 14 = .agg (row8 Z).toArray := hv 14 (by decide) (by decide)
      simp only [List.take_succ_cons, List.take_zero, List.drop_succ_cons, List.drop_zero, putOps, Act.put, List.setIfInBounds_toArray, List.set_cons_zero, List.set_cons_succ, er]
      have R6 := Lib.hid (R5.out.below hB R5.out.lt)
      have B6 := Lib.hid (B5.out.on hB)
      clear hv hap er hB N5 R5 B5
      generalize vs 0 = v0 at *
      generalize vs 1 = v1 at *
      generalize vs 2 = v2 at *
      generalize vs 3 = v3 at *
      generalize vs 4 = v4 at *
      generalize vs 5 = v5 at *
      generalize vs 6 = v6 at *
      generalize vs 7 = v7 at *
      generalize vs 8 = v8 at *
      generalize vs 9 = v9 at *
      generalize vs 10 = v10 at *
      generalize vs 11 = v11 at *
      generalize vs 12 = v12 at *
      generalize vs 13 = v13 at *
      go_wp2_with (refine wpList_store_mid rfl 121 (.tmp 4) (.tmp 28) rfl (w.heap.size + 1) 0 (row8 Z).toArray rfl rfl (R6.out.there _ (by rw [List.size_toArray, Z4.out, hc0])) (by rw [List.size_toArray, Z4.out]; exact infoW) (row8_one _) ?_)
      have fin := R6.out.whole (row8 Z) (by rw [Z4.out, hc0])
      exact bodyPost_ret (v := .agg (row8 Z).toArray) (results_mid rfl _ _ (w.heap.size + 1) (row8 Z) _ rfl fin.range Tryd.underlying121 rfl (by rw [Z4.out]; exact infoW)) rfl ⟨rfl, below_setCells (w.heap.size + 1) (by omega) _ 0 _ B6.out⟩
  . have mb : ((i : Int) % 8 == 0) = false := by simp; omega
    rw [if_neg m0] at hZ
    by_cases m4 : i % 8 = 4
    . have mc : ((i : Int) % 8 == 4) = true := by simp; omega
      rw [if_pos m4] at hZ
      have HZ := Lib.hid hZ
      clear hZ
      go_enter Tryd.func72, Tryd.ntmps72
      go_upto_region 6 with (fail)
      rw [<- HWR.out]
      clear hz
      refine wp_region_g (by kernel_rfl) 13 (by decide) (by kernel_rfl) (by kernel_rfl) (by kernel_rfl) (wr.heap.size) (Nat.le_refl _) [.val (.pointer (some ⟨w.heap.size, 0, none⟩)), .val (.int .u8 (y0 : Int)), .val (.int .u8 ((box y0 : Nat) : Int)), .val (.pointer (some ⟨w.heap.size, 1, none⟩)), .val (.int .u8 (y1 : Int)), .val (.int .u8 ((box y1 : Nat) : Int)), .val (.pointer (some ⟨w.heap.size, 2, none⟩)), .val (.int .u8 (y2 : Int)), .val (.int .u8 ((box y2 : Nat) : Int)), .val (.pointer (some ⟨w.heap.size, 3, none⟩)), .val (.int .u8 (y3 : Int)), .val (.int .u8 ((box y3 : Nat) : Int)), .val (.agg (row8 Z).toArray)] (fun _ => 14) ?_ ?_
      . refine ⟨?_, ?_, ?_, ?_, ?_, ?_, ?_, ?_, ?_, ?_, ?_, ?_, ?_, trivial⟩
        . intro a w' hF hB hd
          have e2 : a.eval (.tmp 2) = .pointer (some ⟨w.heap.size, 0, none⟩) := hF 2 (by decide +kernel)
          exact doesG_val rfl (v := .pointer (some ⟨w.heap.size, 0, none⟩)) (by unfold execOp; simp only [e2]; go_simp) rfl rfl
        . intro a w' hF hB hd
          have e31 : a.eval (.tmp 31) = .pointer (some ⟨w.heap.size, 0, none⟩) := hd 0 (by decide +kernel) (.inr (by decide))
          have c := (N5.out.below hB N5.out.lt).cell 0 (.int .u8 (y0 : Int)) (by rw [HY.out]; rfl)
          exact doesG_val rfl (v := .int .u8 (y0 : Int)) (by unfold execOp; simp only [e31]; go_simp) rfl rfl
        . intro a w' hF hB hd
          have e32 : a.eval (.tmp 32) = .int .u8 (y0 : Int) := hd 1 (by decide +kernel) (.inr (by decide))
          exact doesG_call rfl (ex_call (vs := #[.int .u8 (y0 : Int)]) rfl (by simp only [List.map_toArray, List.map_cons, List.map_nil, e32]) (by go_simp)) rfl ((sbox_any y0 l0 w' (HXr.out.below hB)).mono fun e w2 hh => ⟨_, hh.1, rfl, hh.2⟩)
        . intro a w' hF hB hd
          have e2 : a.eval (.tmp 2) = .pointer (some ⟨w.heap.size, 0, none⟩) := hF 2 (by decide +kernel)
          exact doesG_val rfl (v := .pointer (some ⟨w.heap.size, 1, none⟩)) (by unfold execOp; simp only [e2]; go_simp) rfl rfl
        . intro a w' hF hB hd
          have e34 : a.eval (.tmp 34) = .pointer (some ⟨w.heap.size, 1, none⟩) := hd 3 (by decide +kernel) (.inr (by decide))
          have c := (N5.out.below hB N5.out.lt).cell 1 (.int .u8 (y1 : Int)) (by rw [HY.out]; rfl)
          exact doesG_val rfl (v := .int .u8 (y1 : Int)) (by unfold execOp; simp only [e34]; go_simp) rfl rfl
        . intro a w' hF hB hd
          have e35 : a.eval (.tmp 35) = .int .u8 (y1 : Int) := hd 4 (by decide +kernel) (.inr (by decide))
          exact doesG_call rfl (ex_call (vs := #[.int .u8 (y1 : Int)]) rfl (by simp only [List.map_toArray, List.map_cons, List.map_nil, e35]) (by go_simp)) rfl ((sbox_any y1 l1 w' (HXr.out.below hB)).mono fun e w2 hh => ⟨_, hh.1, rfl, hh.2⟩)
        . intro a w' hF hB hd
          have e2 : a.eval (.tmp 2) = .pointer (some ⟨w.heap.size, 0, none⟩) := hF 2 (by decide +kernel)
          exact doesG_val rfl (v := .pointer (some ⟨w.heap.size, 2, none⟩)) (by unfold execOp; simp only [e2]; go_simp) rfl rfl
        . intro a w' hF hB hd
          have e37 : a.eval (.tmp 37) = .pointer (some ⟨w.heap.size, 2, none⟩) := hd 6 (by decide +kernel) (.inr (by decide))
          have c := (N5.out.below hB N5.out.lt).cell 2 (.int .u8 (y2 : Int)) (by rw [HY.out]; rfl)
          exact doesG_val rfl (v := .int .u8 (y2 : Int)) (by unfold execOp; simp only [e37]; go_simp) rfl rfl
        . intro a w' hF hB hd
          have e38 : a.eval (.tmp 38) = .int .u8 (y2 : Int) := hd 7 (by decide +kernel) (.inr (by decide))
          exact doesG_call rfl (ex_call (vs := #[.int .u8 (y2 : Int)]) rfl (by simp only [List.map_toArray, List.map_cons, List.map_nil, e38]) (by go_simp)) rfl ((sbox_any y2 l2 w' (HXr.out.below hB)).mono fun e w2 hh => ⟨_, hh.1, rfl, hh.2⟩)
        . intro a w' hF hB hd
          have e2 : a.eval (.tmp 2) = .pointer (some ⟨w.heap.size, 0, none⟩) := hF 2 (by decide +kernel)
          exact doesG_val rfl (v := .pointer (some ⟨w.heap.size, 3, none⟩)) (by unfold execOp; simp only [e2]; go_simp) rfl rfl
        . intro a w' hF hB hd
          have e40 : a.eval (.tmp 40) = .pointer (some ⟨w.heap.size, 3, none⟩) := hd 9 (by decide +kernel) (.inr (by decide))
          have c := (N5.out.below hB N5.out.lt).cell 3 (.int .u8 (y3 : Int)) (by rw [HY.out]; rfl)
          exact doesG_val rfl (v := .int .u8 (y3 : Int)) (by unfold execOp; simp only [e40]; go_simp) rfl rfl
        . intro a w' hF hB hd
          have e41 : a.eval (.tmp 41) = .int .u8 (y3 : Int) := hd 10 (by decide +kernel) (.inr (by decide))
          exact doesG_call rfl (ex_call (vs := #[.int .u8 (y3 : Int)]) rfl (by simp only [List.map_toArray, List.map_cons, List.map_nil, e41]) (by go_simp)) rfl ((sbox_any y3 l3 w' (HXr.out.below hB)).mono fun e w2 hh => ⟨_, hh.1, rfl, hh.2⟩)
        . intro a w' hF hB hd
          have e33 : a.eval (.tmp 33) = .int .u8 ((box y0 : Nat) : Int) := hd 2 (by decide +kernel) (.inr (by decide))
          have e36 : a.eval (.tmp 36) = .int .u8 ((box y1 : Nat) : Int) := hd 5 (by decide +kernel) (.inr (by decide))
          have e39 : a.eval (.tmp 39) = .int .u8 ((box y2 : Nat) : Int) := hd 8 (by decide +kernel) (.inr (by decide))
          have e42 : a.eval (.tmp 42) = .int .u8 ((box y3 : Nat) : Int) := hd 11 (by decide +kernel) (.inr (by decide))
          have f33 : a.tmps[33]?.getD undef = .int .u8 ((box y0 : Nat) : Int) := by rw [<- Array.getD_eq_getD_getElem?]; exact e33
          have f36 : a.tmps[36]?.getD undef = .int .u8 ((box y1 : Nat) : Int) := by rw [<- Array.getD_eq_getD_getElem?]; exact e36
          have f39 : a.tmps[39]?.getD undef = .int .u8 ((box y2 : Nat) : Int) := by rw [<- Array.getD_eq_getD_getElem?]; exact e39
          have f42 : a.tmps[42]?.getD undef = .int .u8 ((box y3 : Nat) : Int) := by rw [<- Array.getD_eq_getD_getElem?]; exact e42
          exact doesG_val rfl (v := .agg (row8 Z).toArray) (by rw [HZ.out]; unfold execOp; go_simp; rfl) rfl rfl
      . intro vs w6 hB hv hap
        have er : vs 12 = .agg (row8 Z).toArray := hv 12 (by decide) (by decide)
        simp only [List.take_succ_cons, List.take_zero, List.drop_succ_cons, List.drop_zero, putOps, Act.put, List.setIfInBounds_toArray, List.set_cons_zero, List.set_cons_succ, er]
        have R6 := Lib.hid (R5.out.below hB R5.out.lt)
        have B6 := Lib.hid (B5.out.on hB)
        clear hv hap er hB N5 R5 B5
        generalize vs 0 = v0 at *
        generalize vs 1 = v1 at *
        generalize vs 2 = v2 at *
        generalize vs 3 = v3 at *
        generalize vs 4 = v4 at *
        generalize vs 5 = v5 at *
        generalize vs 6 = v6 at *
        generalize vs 7 = v7 at *
        generalize vs 8 = v8 at *
        generalize vs 9 = v9 at *
        generalize vs 10 = v10 at *
        generalize vs 11 = v11 at *
        go_wp2_with (refine wpList_store_mid rfl 121 (.tmp 4) (.tmp 43) rfl (w.heap.size + 1) 0 (row8 Z).toArray rfl rfl (R6.out.there _ (by rw [List.size_toArray, Z4.out, hc0])) (by rw [List.size_toArray, Z4.out]; exact infoW) (row8_one _) ?_)
        have fin := R6.out.whole (row8 Z) (by rw [Z4.out, hc0])
        exact bodyPost_ret (v := .agg (row8 Z).toArray) (results_mid rfl _ _ (w.heap.size + 1) (row8 Z) _ rfl fin.range Tryd.underlying121 rfl (by rw [Z4.out]; exact infoW)) rfl ⟨rfl, below_setCells (w.heap.size + 1) (by omega) _ 0 _ B6.out⟩
    . have mc : ((i : Int) % 8 == 4) = false := by simp; omega
      rw [if_neg m4] at hZ
      subst hZ
      have N5' := N5.out
      have R5' := R5.out
      rw [HWR.out] at N5' R5'
      have B5' := B5.out
      rw [HWR.out] at B5'
      have N6 := Lib.hid N5'
      have R6 := Lib.hid R5'
      have B6 := Lib.hid B5'
      clear N5' R5' B5'
      go_enter Tryd.func72, Tryd.ntmps72
      go_wp2_with (first
        | (refine wpList_load_mid rfl 121 (.tmp 2) rfl w.heap.size 0 rfl (row8 Z) _ N6.out.range Tryd.underlying121 rfl (by rw [Y4.out]; exact infoW) ?_)
        | (refine wpList_store_mid rfl 121 (.tmp 4) (.tmp 44) rfl (w.heap.size + 1) 0 (row8 Z).toArray rfl rfl (R6.out.there _ (by rw [List.size_toArray, Z4.out, hc0])) (by rw [List.size_toArray, Z4.out]; exact infoW) (row8_one _) ?_))
      have fin := R6.out.whole (row8 Z) (by rw [Z4.out, hc0])
      exact bodyPost_ret (v := .agg (row8 Z).toArray) (results_mid rfl _ _ (w.heap.size + 1) (row8 Z) _ rfl fin.range Tryd.underlying121 rfl (by rw [Z4.out]; exact infoW)) rfl ⟨rfl, below_setCells (w.heap.size + 1) (by omega) _ 0 _ B6.out⟩
end Go.Proofs.YtflnodkajhokhaaDoor
namespace Go.Proofs.YtflnodkajhokhaaDoor
open Go.ChangeShapes Go.WideShapes Go.ChangeAt Go.RowKit
open AM FM
theorem splice_nil {α : Type} (vs : List α) (o : Nat) : splice vs o [] = vs := by
  unfold splice; simp
theorem splice_four (l : List Nat) (o a b c d : Nat) (h : o + 4 <= l.length) : splice (row8 l) o (row8 [a, b, c, d]) = row8 ((((l.set o a).set (o + 1) b).set (o + 2) c).set (o + 3) d) := by
  have hl := row8_len l
  show splice (row8 l) o [.int .u8 (a : Int), .int .u8 (b : Int), .int .u8 (c : Int), .int .u8 (d : Int)] = _
  rw [splice_cons _ _ _ _ (by simp only [List.length_cons, List.length_nil]; omega), splice_cons _ _ _ _ (by rw [List.length_set]; simp only [List.length_cons, List.length_nil]; omega),
    splice_cons _ _ _ _ (by rw [List.length_set, List.length_set]; simp only [List.length_cons, List.length_nil]; omega), splice_cons _ _ _ _ (by rw [List.length_set, List.length_set, List.length_set]; simp only [List.length_nil]; omega), splice_nil]
  rw [row8_set, row8_set, row8_set, row8_set]
theorem swd_splice (S : List Nat) (i : Nat) (hi : i < 60) : splice (row8 (swd S (4 * i))) (i * 4) (row8 (w4 S i)) = row8 (swd S (4 * (i + 1))) := by
  unfold w4
  rw [splice_four _ _ _ _ _ _ (by rw [swd_len]; omega), Nat.mul_comm i 4, swd_step _ _ (by omega), swd_step _ _ (by omega), swd_step _ _ (by omega), swd_step _ _ (by omega)]
  rfl
def inn (S Z : List Nat) (i k : Nat) : List Nat := (List.range 240).map fun j => if j < 4 * i + k then gb S j else if j < 4 * i + 4 then gb Z (j - 4 * i) else 0
theorem inn_len (S Z : List Nat) (i k : Nat) : (inn S Z i k).length = 240 := by simp [inn]
theorem inn_get (S Z : List Nat) (i k j : Nat) (h : j < 240) : gb (inn S Z i k) j = if j < 4 * i + k then gb S j else if j < 4 * i + 4 then gb Z (j - 4 * i) else 0 := by
  unfold inn; rw [gb_map, if_pos h]
theorem inn_zero (S Z : List Nat) (i : Nat) (hi : i < 60) (hZ : Z.length = 4) : splice (row8 (swd S (4 * i))) (i * 4) (row8 Z) = row8 (inn S Z i 0) := by
  obtain ⟨a, b, c, d, rfl⟩ : ∃ a b c d, Z = [a, b, c, d] := ⟨_, _, _, _, four_list Z hZ⟩
  rw [splice_four _ _ _ _ _ _ (by rw [swd_len]; omega)]
  refine congrArg row8 (bytes_ext (n := 240) (by rw [List.length_set, List.length_set, List.length_set, List.length_set, swd_len]) (inn_len _ _ _ _) fun j hj => ?_)
  rw [gb_set _ _ _ _ (by rw [List.length_set, List.length_set, List.length_set, swd_len]; omega), gb_set _ _ _ _ (by rw [List.length_set, List.length_set, swd_len]; omega), gb_set _ _ _ _ (by rw [List.length_set, swd_len]; omega), gb_set _ _ _ _ (by rw [swd_len]; omega), swd_get _ _ _ hj, inn_get _ _ _ _ _ hj]
  by_cases e0 : j < 4 * i
  . rw [if_neg (by omega), if_neg (by omega), if_neg (by omega), if_neg (by omega), if_pos e0, if_pos (by omega)]
  by_cases e4 : 4 * i + 4 <= j
  . rw [if_neg (by omega), if_neg (by omega), if_neg (by omega), if_neg (by omega), if_neg e0, if_neg (by omega), if_neg (by omega)]
  obtain ⟨r, hr, hr4⟩ : ∃ r, j = 4 * i + r /\ r < 4 := ⟨j - 4 * i, by omega, by omega⟩
  rw [if_neg (show ¬ j < 4 * i + 0 by omega), if_pos (show j < 4 * i + 4 by omega), show j - 4 * i = r by omega]
  match r, hr4 with
  | 0, _ => rw [if_neg (by omega), if_neg (by omega), if_neg (by omega), if_pos (by omega)]; rfl
  | 1, _ => rw [if_neg (by omega), if_neg (by omega), if_pos (by omega)]; rfl
  | 2, _ => rw [if_neg (by omega), if_pos (by omega)]; rfl
  | 3, _ => rw [if_pos (by omega)]; rfl
theorem inn_step (S Z : List Nat) (i k : Nat) (hi : i < 60) (hk : k < 4) : (inn S Z i k).set (i * 4 + k) (gb S (4 * i + k)) = inn S Z i (k + 1) :=
  bytes_ext (n := 240) (by rw [List.length_set, inn_len]) (inn_len _ _ _ _) fun j hj => by
    rw [gb_set _ _ _ _ (by rw [inn_len]; omega), inn_get _ _ _ _ _ hj, inn_get _ _ _ _ _ hj]
    by_cases e : i * 4 + k = j
    . subst e; rw [if_pos rfl, if_pos (by omega), show i * 4 + k = 4 * i + k by omega]
    . rw [if_neg e]
      by_cases h : j < 4 * i + k
      . rw [if_pos h, if_pos (by omega)]
      . rw [if_neg h, if_neg (show ¬ j < 4 * i + (k + 1) by omega)]
theorem inn_all (S Z : List Nat) (i : Nat) : inn S Z i 4 = swd S (4 * (i + 1)) :=
  bytes_ext (n := 240) (inn_len _ _ _ _) (swd_len _ _) fun j hj => by
    rw [inn_get _ _ _ _ _ hj, swd_get _ _ _ hj]
    by_cases h : j < 4 * i + 4
    . rw [if_pos h, if_pos (by omega)]
    . rw [if_neg h, if_neg h, if_neg (by omega)]
theorem inn_old (S Z : List Nat) (i k m : Nat) (hm : m < i) (hi : i < 60) (j : Nat) (v : Value) (h : (row8 (w4 S m))[j]? = some v) : (row8 (inn S Z i k))[m * 4 + j]? = some v := by
  by_cases hj : j < 4
  . have h2 := w4_part S (4 * i) m (by omega) (by omega) j v h
    rw [row8_val _ _ (by rw [swd_len]; omega), swd_get _ _ _ (by omega), if_pos (by omega)] at h2
    rw [row8_val _ _ (by rw [inn_len]; omega), inn_get _ _ _ _ _ (by omega), if_pos (by omega), Nat.mul_comm m 4]
    exact h2
  . rw [List.getElem?_eq_none (by rw [row8_len]; show 4 <= j; omega)] at h; cases h
theorem w4_extract (S : List Nat) (hS : S.length = 240) (i : Nat) (hi : i < 60) : (row8 S).toArray.extract (i * 4) (i * 4 + 4) = (row8 (w4 S i)).toArray := by
  apply Array.ext'
  rw [Array.toList_extract]
  show ((row8 S).drop (i * 4)).take (i * 4 + 4 - i * 4) = row8 (w4 S i)
  apply List.ext_getElem?
  intro j
  rw [List.getElem?_take, show i * 4 + 4 - i * 4 = 4 by omega]
  by_cases hj : j < 4
  . rw [if_pos hj, List.getElem?_drop, row8_val _ _ (by omega), row8_val _ _ (show j < 4 from hj)]
    congr 3
    rw [show i * 4 + j = 4 * i + j by omega]
    match j, hj with
    | 0, _ => rfl
    | 1, _ => rfl
    | 2, _ => rfl
    | 3, _ => rfl
  . rw [if_neg hj, List.getElem?_eq_none (by rw [row8_len]; show 4 <= j; omega)]
theorem aggW : ∀ w, (isAgg 121).run Tryd.prog w = .ok true w := fun _ => by kernel_rfl
theorem zeroWs (w : World) : (zeroValue 122).run Tryd.prog w = .ok (.agg (row8 (List.replicate 240 0)).toArray) w := by kernel_rfl
theorem infoWs : (Tryd.prog.info? 122).map (·.size) = some 240 := by kernel_rfl
set_option maxRecDepth 100000 in
set_option maxHeartbeats 4000000 in
theorem psched_any (K : List Nat) (hK : Bytes 32 K) (w : World) (hx : TabX w) :
    Calls Tryd.prog 50 #[.agg (row8 K).toArray] w fun e w' => e = .returned (.agg (row8 (sched K)).toArray) /\ Below w.heap.size w w' := by
  obtain ⟨S, hS⟩ : ∃ S, S = sched K := ⟨_, rfl⟩
  rw [<- hS]
  have bS : Bytes 240 S := by rw [hS]; exact sched_bytes hK.2
  have HW := Lib.hid (fun i (h : i < 8) => (show w4 S i = w4 K i by rw [hS]; exact w4_key K i h))
  have HN := Lib.hid (fun i k (h8 : 8 <= i) (h60 : i < 60) (hk : k < 4) => (show gb S (4 * (i - 8) + k) ^^^ gb (wt S i) k = gb S (4 * i + k) by rw [hS]; exact (wt_next K i k h8 h60 hk).symm))
  obtain ⟨C0, hC0⟩ : ∃ C0, C0 = row8 (List.replicate 240 0) := ⟨_, rfl⟩
  have hzw : ∀ w, (zeroValue 122).run Tryd.prog w = .ok (.agg C0.toArray) w := by rw [hC0]; exact zeroWs
  have hzk : ∀ w, (zeroValue 97).run Tryd.prog w = .ok (.agg C0.toArray) w := by rw [hC0]; exact zeroK
  have hc0 : C0.length = 240 := by rw [hC0, row8_len, List.length_replicate]
  obtain ⟨D0, hD0⟩ : ∃ D0, D0 = row8 [0, 0, 0, 0] := ⟨_, rfl⟩
  have hz4 : ∀ w, (zeroValue 121).run Tryd.prog w = .ok (.agg D0.toArray) w := by rw [hD0]; exact zeroWd
  have hd0 : D0.length = 4 := by rw [hD0]; rfl
  have HC := Lib.hid hC0
  have w1 := (Below.refl w.heap.size w).alloc (Nat.le_refl _) (.cells (row8 K).toArray 23)
  have w2 := w1.alloc w1.size (.cells C0.toArray 97)
  have w3 := w2.alloc w2.size (.cells C0.toArray 122)
  have K0 := Lib.hid (((Blk.new w 23 (row8 K) _ rfl).alloc (.cells C0.toArray 97)).alloc (.cells C0.toArray 122))
  have R0 := Lib.hid ((Blk.new (w.alloc (.cells (row8 K).toArray 23)) 97 C0 (w.heap.size + 1) (by simp)).alloc (.cells C0.toArray 122))
  have N0 := Lib.hid (Blk.new ((w.alloc (.cells (row8 K).toArray 23)).alloc (.cells C0.toArray 97)) 122 C0 (w.heap.size + 1 + 1) (by simp))
  have B0 := Lib.hid w3
  have HK := Lib.hid hK
  have HBS := Lib.hid bS
  have HX := Lib.hid hx
  clear hC0 hD0 w1 w2 w3 hK bS hS hx
  go_enter Tryd.func50, Tryd.ntmps50
  go_upto_region 3 with (fail)
  go_loopw [11] (fun x wr => ∃ i : Nat, i <= 8 /\ x = .int .i64 (i : Int) /\ Blk wr w.heap.size 23 (row8 K) /\ Blk wr (w.heap.size + 1) 97 C0 /\ Blk wr (w.heap.size + 1 + 1) 122 (row8 (swd S (4 * i))) /\ Below w.heap.size w wr) (fun x _ => 8 - (intOf x).toNat)
  case atStart => exact ⟨0, by omega, rfl, K0.out, R0.out, by rw [Nat.mul_zero, swd_zero, <- HC.out]; exact N0.out, B0.out⟩
  case round =>
    clear K0 R0 N0 B0
    obtain ⟨i, hi, rfl, k0, r0, n0, b0⟩ := hrel
    by_cases h8 : i < 8
    . have h8I : (i : Int) < 8 := by omega
      have K0 := Lib.hid k0
      have R0 := Lib.hid r0
      have N0 := Lib.hid n0
      have B0 := Lib.hid b0
      clear k0 r0 n0 b0
      have q0 : (0 : Int) <= 4 * (i : Int) := by omega
      have q1 : 4 * (i : Int) <= 32 := by omega
      have q2 : (4 * (i : Int)).toNat = 4 * i := by omega
      have q3 : (32 : Nat) ≠ 4 * i := by omega
      have q4 : (i : Int) < 60 := by omega
      have HSP := Lib.hid (show splice (row8 (swd S (4 * i))) (i * 4) (row8 (((K.drop (4 * i)).take (32 - 4 * i)).take 4)) = row8 (swd S (4 * (i + 1))) by
        rw [show ((K.drop (4 * i)).take (32 - 4 * i)).take 4 = w4 S i by
          rw [HW.out i h8, List.take_take, Nat.min_eq_left (by omega)]
          refine bytes_ext (n := 4) (by rw [List.length_take, List.length_drop, HK.out.1]; omega) rfl fun j hj => ?_
          rw [gb_take _ _ _ hj, gb_drop]
          match j, hj with
          | 0, _ => rfl
          | 1, _ => rfl
          | 2, _ => rfl
          | 3, _ => rfl]
        exact swd_splice S i (by omega))
      have HMN := Lib.hid (show 4 = min ((K.drop (4 * i)).take (32 - 4 * i)).length 4 by rw [List.length_take, List.length_drop, HK.out.1]; omega)
      have HLE := Lib.hid (show i * 4 + 4 <= (row8 (swd S (4 * i))).length by rw [row8_len, swd_len]; omega)
      go_upto_region 5 with (fail)
      refine wp_region_g (by kernel_rfl) 6 (by decide) (by kernel_rfl) (by kernel_rfl) (by kernel_rfl) (wr.heap.size) (Nat.le_refl _) [.val (.int .i64 (i : Int)), .val (.pointer (some ⟨w.heap.size + 1 + 1, i * 4, none⟩)), .val (.slice (some ⟨w.heap.size + 1 + 1, i * 4, none⟩) 4 4), .val (.int .i64 (i : Int)), .val (.int .i64 (4 * (i : Int))), .val (.slice (some ⟨w.heap.size, 4 * i, none⟩) (32 - 4 * i) (32 - 4 * i))] (fun _ => 7) ?_ ?_
      . refine ⟨?_, ?_, ?_, ?_, ?_, ?_, trivial⟩
        . intro a w' hF hB hd
          have e4 : a.eval (.tmp 4) = .int .i64 (i : Int) := hF 4 (by decide +kernel)
          exact doesG_val rfl (ex_move rfl e4) rfl rfl
        . intro a w' hF hB hd
          have e3 : a.eval (.tmp 3) = .pointer (some ⟨w.heap.size + 1 + 1, 0, none⟩) := hF 3 (by decide +kernel)
          have e14 : a.eval (.tmp 14) = .int .i64 (i : Int) := hd 0 (by decide +kernel) (.inr (by decide))
          exact doesG_val rfl (v := .pointer (some ⟨w.heap.size + 1 + 1, i * 4, none⟩)) (by unfold execOp; simp only [e3, e14]; go_simp) rfl rfl
        . intro a w' hF hB hd
          have e15 : a.eval (.tmp 15) = .pointer (some ⟨w.heap.size + 1 + 1, i * 4, none⟩) := hd 1 (by decide +kernel) (.inr (by decide))
          exact doesG_val rfl (v := .slice (some ⟨w.heap.size + 1 + 1, i * 4, none⟩) 4 4) (by unfold execOp; simp only [e15]; go_simp) rfl rfl
        . intro a w' hF hB hd
          have e4 : a.eval (.tmp 4) = .int .i64 (i : Int) := hF 4 (by decide +kernel)
          exact doesG_val rfl (ex_move rfl e4) rfl rfl
        . intro a w' hF hB hd
          have e17 : a.eval (.tmp 17) = .int .i64 (i : Int) := hd 3 (by decide +kernel) (.inr (by decide))
          exact doesG_val rfl (v := .int .i64 (4 * (i : Int))) (by unfold execOp; simp only [e17]; go_simp; rw [IntKind.wrap_i64] <;> omega) rfl rfl
        . intro a w' hF hB hd
          have e1 : a.eval (.tmp 1) = .pointer (some ⟨w.heap.size, 0, none⟩) := hF 1 (by decide +kernel)
          have e18 : a.eval (.tmp 18) = .int .i64 (4 * (i : Int)) := hd 4 (by decide +kernel) (.inr (by decide))
          exact doesG_val rfl (v := .slice (some ⟨w.heap.size, 4 * i, none⟩) (32 - 4 * i) (32 - 4 * i)) (by unfold execOp; simp only [Option.map_some, Option.map_none, e1, e18]; go_simp; try omega) rfl rfl
      . intro vs w6 hB hv hap
        have e16 : vs 2 = .slice (some ⟨w.heap.size + 1 + 1, i * 4, none⟩) 4 4 := hv 2 (by decide) (by decide)
        have e19 : vs 5 = .slice (some ⟨w.heap.size, 4 * i, none⟩) (32 - 4 * i) (32 - 4 * i) := hv 5 (by decide) (by decide)
        simp only [List.take_succ_cons, List.take_zero, List.drop_succ_cons, List.drop_zero, putOps, Act.put, List.setIfInBounds_toArray, List.set_cons_zero, List.set_cons_succ, e16, e19]
        have K6 := Lib.hid (K0.out.below hB K0.out.lt)
        have X6 := Lib.hid (blk_rd_at K6.out HK.out.2 (4 * i) (32 - 4 * i) (32 - 4 * i) (by rw [HK.out.1]; omega) (Nat.le_refl _) (by rw [HK.out.1]; omega))
        have R6 := Lib.hid (R0.out.below hB R0.out.lt)
        have N6 := Lib.hid (N0.out.below hB N0.out.lt)
        have B6 := Lib.hid (B0.out.on hB)
        clear hv hap e16 e19 hB
        generalize vs 0 = v0 at *
        generalize vs 1 = v1 at *
        generalize vs 3 = v3 at *
        generalize vs 4 = v4 at *
        go_wp2_with ((with_reducible show wpList _ _ _ _ _ _); refine wpList_copy_blk rfl (.tmp 16) (.tmp 19) 25 25 rfl Tryd.underlying25 (w.heap.size + 1 + 1) (i * 4) 4 4 122 (row8 (swd S (4 * i))) N6.out (some ⟨w.heap.size + 1 + 1, i * 4, none⟩) rfl (.slice (some ⟨w.heap.size, 4 * i, none⟩) (32 - 4 * i) (32 - 4 * i)) rfl ((K.drop (4 * i)).take (32 - 4 * i)) X6.out 4 HMN.out (fun _ => rfl) HLE.out ?_; intro w7 r7 g7; rw [HSP.out] at r7; have N7 := Lib.hid r7; have K7 := Lib.hid (K6.out.grown g7 (fun q => by have e : w.heap.size = w.heap.size + 1 + 1 := Option.some.inj q; omega)); have R7 := Lib.hid (R6.out.grown g7 (fun q => by have e : w.heap.size + 1 = w.heap.size + 1 + 1 := Option.some.inj q; omega)); have B7 := Lib.hid (B6.out.grown g7 B6.out.size (fun j hj => by have e : w.heap.size + 1 + 1 = j := Option.some.inj hj; omega)); clear r7 g7)
        exact ⟨⟨i + 1, by omega, by go_num, K7.out, R7.out, N7.out, B7.out⟩, by simp [intOf]; omega⟩
    . have h8I : ¬ (i : Int) < 8 := by omega
      obtain rfl : i = 8 := by omega
      have R0 := Lib.hid r0
      have N0 := Lib.hid n0
      have B0 := Lib.hid b0
      clear k0 r0 n0 b0
      go_upto_region 8 with (fail)
      go_loopw [5] (fun x wr => ∃ i : Nat, 8 <= i /\ i <= 60 /\ x = .int .i64 (i : Int) /\ Blk wr (w.heap.size + 1) 97 C0 /\ Blk wr (w.heap.size + 1 + 1) 122 (row8 (swd S (4 * i))) /\ Below w.heap.size w wr) (fun x _ => 60 - (intOf x).toNat)
      case atStart => exact ⟨8, by omega, by omega, rfl, R0.out, N0.out, B0.out⟩
      case round =>
        clear R0 N0 B0 h8 h8I hi
        obtain ⟨i, h8, h60, rfl, r0, n0, b0⟩ := hrel
        by_cases hlt : i < 60
        . have hltI : (i : Int) < 60 := by omega
          obtain ⟨Z, hZ⟩ : ∃ Z, Z = chg (w4 S (i - 1)) i := ⟨_, rfl⟩
          have hw4 := w4_bytes HBS.out.2 (i - 1)
          have bZ : Bytes 4 Z := by rw [hZ]; exact chg_bytes hw4 i
          have HNI := Lib.hid (fun k (hk : k < 4) => (show gb Z k ^^^ gb S (4 * (i - 8) + k) = gb S (4 * i + k) by rw [Nat.xor_comm, hZ, <- wt_chg]; exact HN.out i k h8 hlt hk))
          have HCH := Lib.hid (changed_any (w4 S (i - 1)) hw4 i h8 hlt wr (HX.out.below b0))
          rw [<- hZ] at HCH
          have Z4 := Lib.hid (show (row8 Z).length = 4 by rw [row8_len]; exact bZ.1)
          have HBZ := Lib.hid bZ
          have W1 := Lib.hid (show (row8 (w4 S (i - 1))).length = 4 from rfl)
          have W8 := Lib.hid (show (row8 (w4 S (i - 8))).length = 4 from rfl)
          have HRG := Lib.hid (range_part n0 ((i - 1) * 4) (row8 (w4 S (i - 1))) (fun j v h => by rw [show (i - 1) * 4 + j = 4 * (i - 1) + j by omega]; exact w4_part S (4 * i) (i - 1) (by omega) (by omega) j v h))
          have HIZ := Lib.hid (inn_zero S Z i hlt bZ.1)
          have HLE := Lib.hid (show i * 4 + (row8 Z).length <= (row8 (swd S (4 * i))).length by rw [Z4.out, row8_len, swd_len]; omega)
          have R0 := Lib.hid r0
          have N0 := Lib.hid n0
          have B0 := Lib.hid b0
          have q0 : (0 : Int) <= (i : Int) - 1 := by omega
          have q1 : (i : Int) - 1 < 60 := by omega
          have q2 : ((i : Int) - 1).toNat = i - 1 := by omega
          have q3 : (0 : Int) <= (i : Int) - 8 := by omega
          have q4 : (i : Int) - 8 < 60 := by omega
          have q5 : ((i : Int) - 8).toNat = i - 8 := by omega
          obtain ⟨Y, hY⟩ : ∃ Y, Y = w4 S (i - 1) := ⟨_, rfl⟩
          rw [<- hY] at HCH W1 HRG
          clear hZ bZ hw4 r0 n0 b0 hY
          go_upto_region 12 with (first
            | (refine wpList_load_mid rfl 121 (.tmp 29) rfl (w.heap.size + 1 + 1) ((i - 1) * 4) rfl (row8 Y) _ HRG.out Tryd.underlying121 rfl (by rw [W1.out]; exact infoW) ?_)
            | (go_at_call 72; (with_reducible refine HCH.out.mono ?_); rintro e wv ⟨rfl, b4⟩; have R4 := Lib.hid (R0.out.below b4 R0.out.lt); have N4 := Lib.hid (N0.out.below b4 N0.out.lt); have B4 := Lib.hid (B0.out.on b4); clear b4)
            | (refine wpList_store_blk rfl 121 (.tmp 33) (.tmp 32) rfl (w.heap.size + 1 + 1) (i * 4) (row8 Z) rfl rfl 122 (row8 (swd S (4 * i))) N4.out HLE.out (by rw [Z4.out]; exact infoW) (row8_one _) ?_; intro w5 b5 g5; rw [HIZ.out] at b5; have N5 := Lib.hid b5; have R5 := Lib.hid (R4.out.grown g5 (fun q => by have e : w.heap.size + 1 = w.heap.size + 1 + 1 := Option.some.inj q; omega)); have B5 := Lib.hid (B4.out.grown g5 B4.out.size (fun k hk => by have e : w.heap.size + 1 + 1 = k := Option.some.inj hk; omega)); have HR8 := Lib.hid (range_part N5.out ((i - 8) * 4) (row8 (w4 S (i - 8))) (fun j v h => inn_old S Z i 0 (i - 8) (by omega) hlt j v h)); clear b5 g5)
            | (refine wpList_load_mid rfl 121 (.tmp 36) rfl (w.heap.size + 1 + 1) ((i - 8) * 4) rfl (row8 (w4 S (i - 8))) _ HR8.out Tryd.underlying121 rfl (by rw [W8.out]; exact infoW) ?_))
          clear HR8 HRG HCH
          go_loopw [38] (fun x wq => ∃ k : Nat, k <= 4 /\ x = .int .i64 (k : Int) /\ Blk wq (w.heap.size + 1) 97 C0 /\ Blk wq (w.heap.size + 1 + 1) 122 (row8 (inn S Z i k)) /\ Below w.heap.size w wq) (fun x _ => 4 - (intOf x).toNat)
          case atStart => exact ⟨0, by omega, rfl, R5.out, N5.out, B5.out⟩
          case round =>
            clear R0 N0 B0 R4 N4 B4 R5 N5 B5
            obtain ⟨k, hk, rfl, r3, n3, b3⟩ := hrel
            by_cases hk4 : k < 4
            . have hk4I : (k : Int) < 4 := by omega
              have hix := run_index_row 121 5 4 (row8 (w4 S (i - 8))).toArray k (.int .u8 ((gb S (4 * (i - 8) + k) : Nat) : Int)) Tryd.underlying121 hk4 info8a agg8a (by
                rw [row8_get _ _ (show k < 4 from hk4)]
                match k, hk4 with
                | 0, _ => rfl
                | 1, _ => rfl
                | 2, _ => rfl
                | 3, _ => rfl)
              have HIC := Lib.hid (show (row8 (inn S Z i k))[i * 4 + k]? = some (.int .u8 ((gb Z k : Nat) : Int)) by
                rw [row8_val _ _ (by rw [inn_len]; omega), inn_get _ _ _ _ _ (by omega), if_neg (by omega), if_pos (by omega), show i * 4 + k - 4 * i = k by omega])
              have HIS := Lib.hid (show (inn S Z i k).set (i * 4 + k) (gb Z k ^^^ gb S (4 * (i - 8) + k)) = inn S Z i (k + 1) by rw [HNI.out k hk4]; exact inn_step S Z i k hlt hk4)
              have R3 := Lib.hid r3
              have N3 := Lib.hid n3
              have B3 := Lib.hid b3
              clear r3 n3 b3
              go_upto_region 14 with (fail)
              refine wp_region_g (by kernel_rfl) 9 (by decide) (by kernel_rfl) (by kernel_rfl) (by kernel_rfl) (wr.heap.size) (Nat.le_refl _) [.val (.int .i64 (i : Int)), .val (.int .i64 (k : Int)), .val (.pointer (some ⟨w.heap.size + 1 + 1, i * 4, none⟩)), .val (.pointer (some ⟨w.heap.size + 1 + 1, i * 4 + k, none⟩)), .val (.int .u8 ((gb Z k : Nat) : Int)), .val (.int .u8 ((gb S (4 * (i - 8) + k) : Nat) : Int)), .val (.int .u8 ((gb Z k ^^^ gb S (4 * (i - 8) + k) : Nat) : Int)), .val (.pointer (some ⟨w.heap.size + 1 + 1, i * 4, none⟩)), .val (.pointer (some ⟨w.heap.size + 1 + 1, i * 4 + k, none⟩))] (fun _ => 10) ?_ ?_
              . refine ⟨?_, ?_, ?_, ?_, ?_, ?_, ?_, ?_, ?_, trivial⟩
                . intro a w' hF hB hd
                  have e5 : a.eval (.tmp 5) = .int .i64 (i : Int) := hF 5 (by decide +kernel)
                  exact doesG_val rfl (ex_move rfl e5) rfl rfl
                . intro a w' hF hB hd
                  have e6 : a.eval (.tmp 6) = .int .i64 (k : Int) := hF 6 (by decide +kernel)
                  exact doesG_val rfl (ex_move rfl e6) rfl rfl
                . intro a w' hF hB hd
                  have e3 : a.eval (.tmp 3) = .pointer (some ⟨w.heap.size + 1 + 1, 0, none⟩) := hF 3 (by decide +kernel)
                  have e42 : a.eval (.tmp 42) = .int .i64 (i : Int) := hd 0 (by decide +kernel) (.inr (by decide))
                  exact doesG_val rfl (v := .pointer (some ⟨w.heap.size + 1 + 1, i * 4, none⟩)) (by unfold execOp; simp only [e3, e42]; go_simp) rfl rfl
                . intro a w' hF hB hd
                  have e44 : a.eval (.tmp 44) = .pointer (some ⟨w.heap.size + 1 + 1, i * 4, none⟩) := hd 2 (by decide +kernel) (.inr (by decide))
                  have e43 : a.eval (.tmp 43) = .int .i64 (k : Int) := hd 1 (by decide +kernel) (.inr (by decide))
                  exact doesG_val rfl (v := .pointer (some ⟨w.heap.size + 1 + 1, i * 4 + k, none⟩)) (by unfold execOp; simp only [e44, e43]; go_simp) rfl rfl
                . intro a w' hF hB hd
                  have e45 : a.eval (.tmp 45) = .pointer (some ⟨w.heap.size + 1 + 1, i * 4 + k, none⟩) := hd 3 (by decide +kernel) (.inr (by decide))
                  have c := (N3.out.below hB N3.out.lt).cell (i * 4 + k) _ HIC.out
                  exact doesG_val rfl (v := .int .u8 ((gb Z k : Nat) : Int)) (by unfold execOp; simp only [e45]; go_simp) rfl rfl
                . intro a w' hF hB hd
                  have e7 : a.eval (.tmp 7) = .int .u8 ((gb S (4 * (i - 8) + k) : Nat) : Int) := hF 7 (by decide +kernel)
                  exact doesG_val rfl (ex_move rfl e7) rfl rfl
                . intro a w' hF hB hd
                  have e46 : a.eval (.tmp 46) = .int .u8 ((gb Z k : Nat) : Int) := hd 4 (by decide +kernel) (.inr (by decide))
                  have e47 : a.eval (.tmp 47) = .int .u8 ((gb S (4 * (i - 8) + k) : Nat) : Int) := hd 5 (by decide +kernel) (.inr (by decide))
                  have hx := u8_xor_nat (gb Z k) (gb S (4 * (i - 8) + k)) (HBZ.out.2 _) (HBS.out.2 _)
                  exact doesG_val rfl (v := .int .u8 ((gb Z k ^^^ gb S (4 * (i - 8) + k) : Nat) : Int)) (by unfold execOp; simp only [e46, e47]; go_simp) rfl rfl
                . intro a w' hF hB hd
                  have e3 : a.eval (.tmp 3) = .pointer (some ⟨w.heap.size + 1 + 1, 0, none⟩) := hF 3 (by decide +kernel)
                  have e42 : a.eval (.tmp 42) = .int .i64 (i : Int) := hd 0 (by decide +kernel) (.inr (by decide))
                  exact doesG_val rfl (v := .pointer (some ⟨w.heap.size + 1 + 1, i * 4, none⟩)) (by unfold execOp; simp only [e3, e42]; go_simp) rfl rfl
                . intro a w' hF hB hd
                  have e49 : a.eval (.tmp 49) = .pointer (some ⟨w.heap.size + 1 + 1, i * 4, none⟩) := hd 7 (by decide +kernel) (.inr (by decide))
                  have e43 : a.eval (.tmp 43) = .int .i64 (k : Int) := hd 1 (by decide +kernel) (.inr (by decide))
                  exact doesG_val rfl (v := .pointer (some ⟨w.heap.size + 1 + 1, i * 4 + k, none⟩)) (by unfold execOp; simp only [e49, e43]; go_simp) rfl rfl
              . intro vs w6 hB hv hap
                have e48 : vs 6 = .int .u8 ((gb Z k ^^^ gb S (4 * (i - 8) + k) : Nat) : Int) := hv 6 (by decide) (by decide)
                have e50 : vs 8 = .pointer (some ⟨w.heap.size + 1 + 1, i * 4 + k, none⟩) := hv 8 (by decide) (by decide)
                simp only [List.take_succ_cons, List.take_zero, List.drop_succ_cons, List.drop_zero, putOps, Act.put, List.setIfInBounds_toArray, List.set_cons_zero, List.set_cons_succ, e48, e50]
                have c6 := (N3.out.below hB N3.out.lt).cell (i * 4 + k) _ HIC.out
                have f6 := (N3.out.below hB N3.out.lt).free (i * 4 + k)
                have N6 := Lib.hid ((N3.out.below hB N3.out.lt).set (i * 4 + k) (.int .u8 ((gb Z k ^^^ gb S (4 * (i - 8) + k) : Nat) : Int)))
                have R6 := Lib.hid ((R3.out.below hB R3.out.lt).other ⟨w.heap.size + 1 + 1, i * 4 + k, none⟩ (.int .u8 ((gb Z k ^^^ gb S (4 * (i - 8) + k) : Nat) : Int)) (by simp <;> omega))
                have B6 := Lib.hid ((B3.out.on hB).setCell (p := ⟨w.heap.size + 1 + 1, i * 4 + k, none⟩) (by simp <;> omega) (.int .u8 ((gb Z k ^^^ gb S (4 * (i - 8) + k) : Nat) : Int)))
                clear hv hap e48 e50 hB N3 R3 B3
                generalize vs 0 = v0 at *
                generalize vs 1 = v1 at *
                generalize vs 2 = v2 at *
                generalize vs 3 = v3 at *
                generalize vs 4 = v4 at *
                generalize vs 5 = v5 at *
                generalize vs 7 = v7 at *
                go_wp2_with fail
                rw [row8_set, HIS.out] at N6
                exact ⟨⟨k + 1, by omega, by go_num, R6.out, N6.out, B6.out⟩, by simp [intOf]; omega⟩
            . have hk4I : ¬ (k : Int) < 4 := by omega
              obtain rfl : k = 4 := by omega
              rw [inn_all] at n3
              have R3 := Lib.hid r3
              have N3 := Lib.hid n3
              have B3 := Lib.hid b3
              clear r3 n3 b3
              go_wp2_with fail
              exact ⟨⟨i + 1, by omega, by omega, by go_num, R3.out, N3.out, B3.out⟩, by simp [intOf]; omega⟩
        . have hltI : ¬ (i : Int) < 60 := by omega
          obtain rfl : i = 60 := by omega
          rw [show 4 * 60 = 240 from rfl, swd_all HBS.out.1] at n0
          have S240 := Lib.hid (show (row8 S).length = 240 by rw [row8_len]; exact HBS.out.1)
          obtain ⟨kb, hkb⟩ : ∃ b, b = wr.heap.size := ⟨_, rfl⟩
          have hkl : w.heap.size + 1 + 1 < kb := by rw [hkb]; exact n0.lt
          have HKB := Lib.hid hkl
          have N1 := Lib.hid (n0.alloc (.cells C0.toArray 97))
          have R1 := Lib.hid (r0.alloc (.cells C0.toArray 97))
          have B1 := Lib.hid (b0.alloc b0.size (.cells C0.toArray 97))
          have M1 := Lib.hid (Blk.new wr 97 C0 kb hkb)
          have HKE := Lib.hid hkb
          clear r0 n0 b0 hkl hkb
          go_upto_region 18 with (refine wpList_load_mid rfl 122 (.tmp 3) rfl (w.heap.size + 1 + 1) 0 rfl (row8 S) _ N1.out.range Tryd.underlying122 rfl (by rw [S240.out]; exact infoWs) ?_)
          rw [<- HKE.out]
          go_loopw [53] (fun x wq => ∃ i : Nat, i <= 60 /\ x = .int .i64 (i : Int) /\ Blk wq (w.heap.size + 1) 97 C0 /\ Blk wq kb 97 (row8 (swd S (4 * i))) /\ Below w.heap.size w wq) (fun x _ => 60 - (intOf x).toNat)
          case atStart => exact ⟨0, by omega, rfl, R1.out, by rw [Nat.mul_zero, swd_zero, <- HC.out]; exact M1.out, B1.out⟩
          case round =>
            clear N1 R1 B1 M1 HKE
            obtain ⟨i, hi, rfl, r3, n3, b3⟩ := hrel
            by_cases hlt : i < 60
            . have hltI : (i : Int) < 60 := by omega
              have hix := run_index_part (P := Tryd.prog) 122 121 60 4 (row8 S).toArray (row8 (w4 S i)).toArray i Tryd.underlying122 hlt infoW aggW (w4_extract S HBS.out.1 i hlt)
              have W4 := Lib.hid (show (row8 (w4 S i)).length = 4 from rfl)
              have HBW := Lib.hid (w4_bytes HBS.out.2 i)
              have HOF := Lib.hid (show i / 4 * 16 + 4 * (i % 4) = i * 4 by omega)
              have HMN := Lib.hid (show 4 = min (((w4 S i).drop 0).take 4).length (16 - 4 * (i % 4)) by
                have : (((w4 S i).drop 0).take 4).length = 4 := rfl
                omega)
              have HLE := Lib.hid (show i * 4 + 4 <= (row8 (swd S (4 * i))).length by rw [row8_len, swd_len]; omega)
              have HSP := Lib.hid (show splice (row8 (swd S (4 * i))) (i * 4) (row8 ((((w4 S i).drop 0).take 4).take 4)) = row8 (swd S (4 * (i + 1))) from swd_splice S i hlt)
              obtain ⟨tb, htb⟩ : ∃ b, b = wr.heap.size := ⟨_, rfl⟩
              have T3 := Lib.hid (Blk.new wr 121 D0 tb htb)
              have R3 := Lib.hid (r3.alloc (.cells D0.toArray 121))
              have N3 := Lib.hid (n3.alloc (.cells D0.toArray 121))
              have B3 := Lib.hid (b3.alloc b3.size (.cells D0.toArray 121))
              have HTB := Lib.hid (show kb < tb by rw [htb]; exact n3.lt)
              have HTE := Lib.hid htb
              have HDE := Lib.hid (show (row8 (w4 S i)).length = D0.length by rw [hd0]; rfl)
              obtain ⟨WW, hWW⟩ : ∃ W, W = w4 S i := ⟨_, rfl⟩
              rw [<- hWW] at hix W4 HBW HMN HSP HDE
              have HWW := Lib.hid hWW
              have d0 : ((((i : Int) / 4)).toNat) = i / 4 := by omega
              clear r3 n3 b3 htb hWW
              go_upto_region 20 with (refine wpList_store_blk rfl 121 (.tmp 10) (.tmp 56) rfl wr.heap.size 0 (row8 WW) rfl rfl 121 D0 (by rw [<- HTE.out]; exact T3.out) (by rw [HDE.out]; omega) (by rw [W4.out]; exact infoW) (row8_one _) ?_; intro w5 b5 g5; rw [<- HTE.out] at b5 g5; rw [splice_all _ _ HDE.out] at b5; have T5 := Lib.hid b5; have N5 := Lib.hid (N3.out.grown g5 (fun q => by have e : kb = tb := Option.some.inj q; have := HTB.out; omega)); have R5 := Lib.hid (R3.out.grown g5 (fun q => by have e : w.heap.size + 1 = tb := Option.some.inj q; have := HTB.out; have := HKB.out; omega)); have B5 := Lib.hid (B3.out.grown g5 B3.out.size (fun k hk => by have e : tb = k := Option.some.inj hk; have := HTB.out; have := HKB.out; omega)); clear b5 g5)
              rw [<- HTE.out]
              clear T3 N3 R3 B3
              have f1 : (0 : Int) <= 4 * ((i : Int) % 4) := by omega
              have f2 : 4 * ((i : Int) % 4) <= 16 := by omega
              have f3 : (4 * ((i : Int) % 4)).toNat = 4 * (i % 4) := by omega
              have f4 : (16 : Nat) ≠ 4 * (i % 4) := by omega
              refine wp_region_g (by kernel_rfl) 8 (by decide) (by kernel_rfl) (by kernel_rfl) (by kernel_rfl) (w5.heap.size) (Nat.le_refl _) [.val (.int .i64 (i : Int)), .val (.int .i64 ((i / 4 : Nat) : Int)), .val (.pointer (some ⟨kb, i / 4 * 16, none⟩)), .val (.int .i64 (i : Int)), .val (.int .i64 ((i % 4 : Nat) : Int)), .val (.int .i64 ((4 * (i % 4) : Nat) : Int)), .val (.slice (some ⟨kb, i / 4 * 16 + 4 * (i % 4), none⟩) (16 - 4 * (i % 4)) (16 - 4 * (i % 4))), .val (.slice (some ⟨tb, 0, none⟩) 4 4)] (fun _ => 9) ?_ ?_
              . refine ⟨?_, ?_, ?_, ?_, ?_, ?_, ?_, ?_, trivial⟩
                . intro a w' hF hB hd
                  have e9 : a.eval (.tmp 9) = .int .i64 (i : Int) := hF 9 (by decide +kernel)
                  exact doesG_val rfl (ex_move rfl e9) rfl rfl
                . intro a w' hF hB hd
                  have e57 : a.eval (.tmp 57) = .int .i64 (i : Int) := hd 0 (by decide +kernel) (.inr (by decide))
                  exact doesG_val rfl (v := .int .i64 ((i / 4 : Nat) : Int)) (by unfold execOp; simp only [e57]; go_simp; rw [IntKind.wrap_i64] <;> omega) rfl rfl
                . intro a w' hF hB hd
                  have e8 : a.eval (.tmp 8) = .pointer (some ⟨kb, 0, none⟩) := hF 8 (by decide +kernel)
                  have e58 : a.eval (.tmp 58) = .int .i64 ((i / 4 : Nat) : Int) := hd 1 (by decide +kernel) (.inr (by decide))
                  exact doesG_val rfl (v := .pointer (some ⟨kb, i / 4 * 16, none⟩)) (by unfold execOp; simp only [e8, e58]; go_simp; intro h; omega) rfl rfl
                . intro a w' hF hB hd
                  have e9 : a.eval (.tmp 9) = .int .i64 (i : Int) := hF 9 (by decide +kernel)
                  exact doesG_val rfl (ex_move rfl e9) rfl rfl
                . intro a w' hF hB hd
                  have e60 : a.eval (.tmp 60) = .int .i64 (i : Int) := hd 3 (by decide +kernel) (.inr (by decide))
                  exact doesG_val rfl (v := .int .i64 ((i % 4 : Nat) : Int)) (by unfold execOp; simp only [e60]; go_simp; exact Int.tmod_eq_emod_of_nonneg (by omega)) rfl rfl
                . intro a w' hF hB hd
                  have e61 : a.eval (.tmp 61) = .int .i64 ((i % 4 : Nat) : Int) := hd 4 (by decide +kernel) (.inr (by decide))
                  exact doesG_val rfl (v := .int .i64 ((4 * (i % 4) : Nat) : Int)) (by unfold execOp; simp only [e61]; go_simp; rw [IntKind.wrap_i64] <;> omega) rfl rfl
                . intro a w' hF hB hd
                  have e59 : a.eval (.tmp 59) = .pointer (some ⟨kb, i / 4 * 16, none⟩) := hd 2 (by decide +kernel) (.inr (by decide))
                  have e62 : a.eval (.tmp 62) = .int .i64 ((4 * (i % 4) : Nat) : Int) := hd 5 (by decide +kernel) (.inr (by decide))
                  exact doesG_val rfl (v := .slice (some ⟨kb, i / 4 * 16 + 4 * (i % 4), none⟩) (16 - 4 * (i % 4)) (16 - 4 * (i % 4))) (by unfold execOp; simp only [Option.map_some, Option.map_none, e59, e62]; go_simp; try omega) rfl rfl
                . intro a w' hF hB hd
                  have e10 : a.eval (.tmp 10) = .pointer (some ⟨tb, 0, none⟩) := hF 10 (by decide +kernel)
                  exact doesG_val rfl (v := .slice (some ⟨tb, 0, none⟩) 4 4) (by unfold execOp; simp only [e10]; go_simp) rfl rfl
              . intro vs w6 hB hv hap
                have e63 : vs 6 = .slice (some ⟨kb, i / 4 * 16 + 4 * (i % 4), none⟩) (16 - 4 * (i % 4)) (16 - 4 * (i % 4)) := hv 6 (by decide) (by decide)
                have e64 : vs 7 = .slice (some ⟨tb, 0, none⟩) 4 4 := hv 7 (by decide) (by decide)
                simp only [List.take_succ_cons, List.take_zero, List.drop_succ_cons, List.drop_zero, putOps, Act.put, List.setIfInBounds_toArray, List.set_cons_zero, List.set_cons_succ, e63, e64]
                have X6 := Lib.hid (blk_rd_at (T5.out.below hB T5.out.lt) HBW.out.2 0 4 4 (by rw [HBW.out.1]; omega) (Nat.le_refl _) (by rw [HBW.out.1]; omega))
                have R6 := Lib.hid (R5.out.below hB R5.out.lt)
                have N6 := Lib.hid (N5.out.below hB N5.out.lt)
                have B6 := Lib.hid (B5.out.on hB)
                clear hv hap e63 e64 hB
                generalize vs 0 = v0 at *
                generalize vs 1 = v1 at *
                generalize vs 2 = v2 at *
                generalize vs 3 = v3 at *
                generalize vs 4 = v4 at *
                generalize vs 5 = v5 at *
                go_wp2_with ((with_reducible show wpList _ _ _ _ _ _); refine wpList_copy_blk rfl (.tmp 63) (.tmp 64) 25 25 rfl Tryd.underlying25 kb (i * 4) (16 - 4 * (i % 4)) (16 - 4 * (i % 4)) 97 (row8 (swd S (4 * i))) N6.out (some ⟨kb, i / 4 * 16 + 4 * (i % 4), none⟩) rfl (.slice (some ⟨tb, 0, none⟩) 4 4) rfl ((WW.drop 0).take 4) X6.out 4 HMN.out (fun _ => by rw [HOF.out]) HLE.out ?_; intro w7 r7 g7; rw [HSP.out] at r7; have N7 := Lib.hid r7; have R7 := Lib.hid (R6.out.grown g7 (fun q => by have e : w.heap.size + 1 = kb := Option.some.inj q; have := HKB.out; omega)); have B7 := Lib.hid (B6.out.grown g7 B6.out.size (fun j hj => by have e : kb = j := Option.some.inj hj; have := HKB.out; omega)); clear r7 g7)
                exact ⟨⟨i + 1, by omega, by go_num, R7.out, N7.out, B7.out⟩, by simp [intOf]; omega⟩
            . have hltI : ¬ (i : Int) < 60 := by omega
              obtain rfl : i = 60 := by omega
              rw [show 4 * 60 = 240 from rfl, swd_all HBS.out.1] at n3
              have R3 := Lib.hid r3
              have N3 := Lib.hid n3
              have B3 := Lib.hid b3
              clear r3 n3 b3
              go_wp2_with (first
                | (refine wpList_load_mid rfl 97 (.tmp 8) rfl kb 0 rfl (row8 S) _ N3.out.range Tryd.underlying97 rfl (by rw [S240.out]; exact info240) ?_)
                | (refine wpList_store_mid rfl 97 (.tmp 2) (.tmp 67) rfl (w.heap.size + 1) 0 (row8 S).toArray rfl rfl (R3.out.there _ (by rw [List.size_toArray, S240.out, hc0])) (by rw [List.size_toArray, S240.out]; exact info240) (row8_one _) ?_))
              have fin := R3.out.whole (row8 S) (by rw [S240.out, hc0])
              exact bodyPost_ret (v := .agg (row8 S).toArray) (results_mid rfl _ _ (w.heap.size + 1) (row8 S) _ rfl fin.range Tryd.underlying97 rfl (by rw [S240.out]; exact info240)) rfl ⟨rfl, below_setCells (w.heap.size + 1) (by omega) _ 0 _ B3.out⟩
theorem built_cph (L : List Value) (hL : L.length = 240) : Tryd.prog.built 100 [(0, .agg L.toArray)] = some L.toArray := by
  have e : Tryd.prog.built 100 [(0, .agg L.toArray)] = Instr.fill (#[(0, 240)][·]?) (row8 (List.replicate 240 0)).toArray [(0, .agg L.toArray)] := by kernel_rfl
  rw [e]
  exact fill_one _ 240 rfl _ (by rw [row8_len, List.length_replicate]) L hL
theorem infoKeyP : (Tryd.prog.info? 23).map (·.size) = some 32 := by kernel_rfl
set_option maxRecDepth 100000 in
theorem cph_new (K : List Nat) (hK : Bytes 32 K) (w : World) (hx : TabX w) :
    Calls Tryd.prog 29 #[.agg (row8 K).toArray] w fun e w' => ∃ c, w.heap.size <= c /\ e = .returned (.pointer (some ⟨c, 0, none⟩)) /\ Cph w' c K /\ Below w.heap.size w w' := by
  obtain ⟨S, hS⟩ : ∃ S, S = sched K := ⟨_, rfl⟩
  have HSC := Lib.hid (fun W (hW : Below w.heap.size w W) => psched_any K hK W (hx.below hW))
  have S240 := Lib.hid (show (row8 S).length = 240 by rw [hS, row8_len]; exact (sched_bytes hK.2).1)
  have hbd := built_cph (row8 S) S240.out
  have HBD := Lib.hid hbd
  rw [<- hS] at HSC
  have N0 := Lib.hid (Blk.new w 23 (row8 K) _ rfl)
  have B0 := Lib.hid ((Below.refl w.heap.size w).alloc (Nat.le_refl _) (.cells (row8 K).toArray 23))
  have K32 := Lib.hid (show (row8 K).length = 32 by rw [row8_len]; exact hK.1)
  have HS := Lib.hid hS
  have HK := Lib.hid hK
  clear hS hbd hx hK
  go_enter Tryd.func29, Tryd.ntmps29
  go_wp2_with (first
    | (refine wpList_load_mid rfl 23 (.tmp 1) rfl w.heap.size 0 rfl (row8 K) _ N0.out.range Tryd.underlying23 rfl (by rw [K32.out]; exact infoKeyP) ?_)
    | (go_at_call 50; (with_reducible refine (HSC.out _ B0.out).mono ?_); rintro e w4 ⟨rfl, b4⟩; have B4 := Lib.hid (B0.out.on b4); clear b4)
    | (refine wpList_buildTo rfl 100 _ rfl (some 5) rfl (row8 S).toArray (Eq.trans (b := Tryd.prog.built 100 [(0, .agg (row8 S).toArray)]) (by kernel_rfl) HBD.out) ?_))
  go_ret
  refine ⟨w4.heap.size, B4.out.size, rfl, ⟨HK.out, ?_⟩, B4.out.alloc B4.out.size _⟩
  rw [<- HS.out]
  exact Blk.new w4 100 (row8 S) _ rfl
end Go.Proofs.YtflnodkajhokhaaDoor
end
