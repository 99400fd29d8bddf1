/- The program's Xts: made, sectors sealed and opened: contracts. Own work. -/
import Derived.Test.YtmidbmihadhgdaaDoorXtsSect
import Derived.Test.YtmidbmihadhgdaaDoorXtsKnown
import Derived.Test.YtmidbmihadhgdaaDoorInfo16
import Derived.Test.YtmidbmihadhgdaaDoorMakeG
namespace Go.Proofs.YtmidbmihadhgdaaDoor
open Go.ChangeShapes Go.WideShapes Go.ChangeAt Go.RowKit
open AM FM XM
/-- In block x lies an Xts with the keys K and L. -/
def Xt (w : World) (x : Nat) (K L : List Nat) : Prop := ∃ c d, Blk w x 51 [.pointer (some ⟨c, 0, none⟩), .pointer (some ⟨d, 0, none⟩)] ∧ Cph w c K ∧ Cph w d L
theorem Xt.below {w w' : World} {x : Nat} {K L : List Nat} (h : Xt w x K L) (hb : Below w.heap.size w w') : Xt w' x K L := by
  obtain ⟨c, d, h1, h2, h3⟩ := h
  exact ⟨c, d, h1.below hb h1.lt, h2.below hb, h3.below hb⟩
namespace XM
theorem splice_behind (A B p : List Nat) : splice (A ++ B) A.length p = A ++ p ++ B.drop p.length := by
  unfold splice
  rw [List.take_left, List.drop_append, List.drop_eq_nil_of_le (by omega), List.nil_append, show A.length + p.length - A.length = p.length by omega, List.append_assoc]
/-- Sectors of which the first j are done. -/
def upon (op : Bool) (k1 k2 : Nat → List Nat) (n : Nat) (b : List Nat) (j : Nat) : List Nat := secs op k1 k2 n b j ++ b.drop (512 * j)
theorem upon_zero (op : Bool) (k1 k2 : Nat → List Nat) (n : Nat) (b : List Nat) : upon op k1 k2 n b 0 = b := by
  unfold upon; rw [secs_zero]; simp
theorem upon_len (op : Bool) {k1 k2 : Nat → List Nat} (h1 : ∀ n, Bytes 16 (k1 n)) (h2 : ∀ n, Bytes 16 (k2 n)) (n : Nat) (b : List Nat) (j : Nat) (hj : 512 * j ≤ b.length) : (upon op k1 k2 n b j).length = b.length := by
  unfold upon; rw [List.length_append, secs_len op h1 h2, List.length_drop]; omega
theorem upon_step (op : Bool) {k1 k2 : Nat → List Nat} (h1 : ∀ n, Bytes 16 (k1 n)) (h2 : ∀ n, Bytes 16 (k2 n)) (T : List Nat → List Nat) (hT : ∀ q c, bw (fun i => bt T (tweak k2 q i)) c 32 = sec op k1 k2 q c) (n : Nat) (b : List Nat) (j : Nat) : under T (tweak k2 ((n + j) % 2 ^ 64)) (upon op k1 k2 n b j) (512 * j) 32 = upon op k1 k2 n b (j + 1) := by
  have hl := secs_len op h1 h2 n b j
  unfold under
  have e : ((upon op k1 k2 n b j).drop (512 * j)).take 512 = (b.drop (512 * j)).take 512 := by
    unfold upon
    rw [List.drop_append, hl, List.drop_eq_nil_of_le (by omega), List.nil_append, Nat.sub_self, List.drop_zero]
  rw [e, hT]
  have hs : (sec op k1 k2 ((n + j) % 2 ^ 64) ((b.drop (512 * j)).take 512)).length = 512 := sec_len _ _ _ _ _
  have e2 := splice_behind (secs op k1 k2 n b j) (b.drop (512 * j)) (sec op k1 k2 ((n + j) % 2 ^ 64) ((b.drop (512 * j)).take 512))
  rw [hl, hs, secs_step, List.drop_drop] at e2
  unfold upon
  rw [e2, show 512 * j + 512 = 512 * (j + 1) by omega]
theorem upon_all (op : Bool) (k1 k2 : Nat → List Nat) (n : Nat) (b : List Nat) (m : Nat) (h : b.length = 512 * m) : upon op k1 k2 n b m = if op = true then xopen k1 k2 n b else xseal k1 k2 n b := by
  unfold upon; rw [List.drop_eq_nil_of_le (by omega), List.append_nil]; exact secs_all op k1 k2 n b m h
theorem upon_byte (op : Bool) {k1 k2 : Nat → List Nat} (h1 : ∀ n, Bytes 16 (k1 n)) (h2 : ∀ n, Bytes 16 (k2 n)) (n : Nat) {b : List Nat} (hb : ∀ k, gb b k < 256) (j : Nat) (hj : 512 * j ≤ b.length) : ∀ k, gb (upon op k1 k2 n b j) k < 256 := by
  unfold upon
  refine gb_app _ _ ?_ (fun k => by rw [gb_drop]; exact hb _)
  unfold secs
  split
  · exact openTo_byte h1 h2 n hb _ (by omega)
  · exact sealTo_byte h1 h2 n b _
end XM
set_option maxRecDepth 100000 in
set_option maxHeartbeats 4000000 in
theorem psectors_any (op : Bool) (k1 : Nat → List Nat) (h1 : ∀ n, Bytes 16 (k1 n)) (T : List Nat → List Nat) (hTB : ∀ s, Bytes 16 s → Bytes 16 (T s)) (F : FuncId) (r : Value) (hF : ∀ a w, (callFunc F (#[r] ++ #[a])).run Tryd.prog w = .ok (.enter F (#[r] ++ #[a])) w)
    (x d : Nat) (p : Value) (L : List Nat) (n : Nat) (hn : n < 2 ^ 64) (v : Value) (b : List Nat) (w : World) (hv : Rd w v b)
    (hx : Blk w x 51 [p, .pointer (some ⟨d, 0, none⟩)]) (hd : Cph w d L) (ht : TabX w) (hTs : ∀ q c, bw (fun i => bt T (tweak (keys L) q i)) c 32 = sec op k1 (keys L) q c)
    (hT : ∀ W, Below w.heap.size w W → ∀ s, Bytes 16 s → Calls Tryd.prog F (#[r] ++ #[.agg (row8 s).toArray]) W fun e W' => e = .returned (.agg (row8 (T s)).toArray) ∧ Below W.heap.size W W') :
    Calls Tryd.prog 19 #[.pointer (some ⟨x, 0, none⟩), .int .u64 (n : Int), v, .func (.func F) #[r] #[]] w fun e w' => ∃ y, e = .returned (.tuple #[y, .int .i64 (xerr b.length)]) ∧ Rd w' y (if xerr b.length = 0 then (if op = true then xopen k1 (keys L) n b else xseal k1 (keys L) n b) else []) ∧ Below w.heap.size w w' := by
  obtain ⟨ab, cb, rfl, hcb⟩ := hv.shape
  obtain ⟨m, hm⟩ : ∃ m, m = b.length := ⟨_, rfl⟩
  have hb47 := hv.fits
  rw [← hm] at hcb hb47 ⊢
  by_cases hr : m % 512 ≠ 0
  · have hrI : ¬ (m : Int) % 512 = 0 := by omega
    have hx2 : xerr m = 2 := by unfold xerr; rw [if_pos (.inl hr)]
    have B0 := Lib.hid (Below.refl w.heap.size w)
    rw [hx2, if_neg (by decide)]
    clear hx hd ht hTs hT hv hF hTB h1
    go_enter Tryd.func19, Tryd.ntmps19
    go_wp2_with fail
    go_ret2
    exact ⟨.slice none 0 0, rfl, Rd.none_ _, B0.out⟩
  have hrI : (m : Int) % 512 = 0 := by omega
  by_cases hl : 65536 < m
  · have hlI : (65536 : Int) < (m : Int) := by omega
    have hx2 : xerr m = 2 := by unfold xerr; rw [if_pos (.inr hl)]
    have B0 := Lib.hid (Below.refl w.heap.size w)
    rw [hx2, if_neg (by decide)]
    clear hx hd ht hTs hT hv hF hTB h1
    go_enter Tryd.func19, Tryd.ntmps19
    go_wp2_with fail
    go_ret2
    exact ⟨.slice none 0 0, rfl, Rd.none_ _, B0.out⟩
  have hlI : ¬ (65536 : Int) < (m : Int) := by omega
  have hx0 : xerr m = 0 := by unfold xerr; rw [if_neg (by omega)]
  obtain ⟨N, hN⟩ : ∃ N, m = 512 * N := ⟨m / 512, by omega⟩
  have h2 : ∀ j, Bytes 16 (keys L j) := keys_bytes hd.1
  rw [hx0, if_pos rfl, ← upon_all op k1 (keys L) n b N (by omega)]
  obtain ⟨S, hS⟩ : ∃ S, S = upon op k1 (keys L) n b := ⟨_, rfl⟩
  have hS0 : S 0 = b := by rw [hS]; exact upon_zero _ _ _ _ _
  have HSL := Lib.hid (fun j (h : j ≤ N) => (show (S j).length = m by rw [hS, hm]; exact upon_len op h1 h2 n b j (by omega)))
  have HSB := Lib.hid (fun j (h : j ≤ N) => (show ∀ k, gb (S j) k < 256 by rw [hS]; exact upon_byte op h1 h2 n hv.byte j (by omega)))
  have HST := Lib.hid (fun j => (show under T (tweak (keys L) ((n + j) % 2 ^ 64)) (S j) (512 * j) 32 = S (j + 1) by rw [hS]; exact upon_step op h1 h2 T hTs n b j))
  rw [← hS]
  have HSC := Lib.hid (fun (W : World) (hW : Below w.heap.size w W) (q j : Nat) (R : List Nat) (hR : ∀ k, gb R k < 256) (ho : 512 * j + 512 ≤ R.length) (hg : Blk W w.heap.size 5 (row8 R)) =>
    psector_any T hTB F r hF x d p L q w.heap.size (512 * j) R hR ho W hg (hx.below hW hx.lt) (hd.below hW) (ht.below hW) (by have := hx.lt; omega) (by have := hd.lt; omega) (by have := ht.lt; omega)
      (fun V hV s hs => hT V (hW.grown hV hW.size (fun i hi => by have e : w.heap.size = i := Option.some.inj hi; omega)) s hs))
  obtain ⟨i0, hi, hz0, hz1, hz2⟩ := info_parts infoB
  have HI := Lib.hid hi
  have HZ0 := Lib.hid hz0
  have HZ1 := Lib.hid hz1
  have HB2 := Lib.hid (show i0.bytes * m ≤ 281474976710656 by rw [hz2]; omega)
  have HB3 := Lib.hid (show m ≤ maxLen by unfold maxLen; omega)
  have HV := Lib.hid (fun W (hW : Below w.heap.size w W) => (show Rd W (.slice ab m cb) b by rw [hm]; exact hv.below hW))
  have HM := Lib.hid hm
  have HN := Lib.hid hN
  have HS0 := Lib.hid hS0
  have HNN := Lib.hid hn
  have HBK := Lib.hid (show b.take m = b from List.take_of_length_le (by omega))
  have HMN := Lib.hid (show m = min b.length m by omega)
  clear hx hd ht hTs hT hv hF hTB h1 h2 hS hS0 hi hz0 hz1 hz2 hm hN hx0 hn
  go_enter Tryd.func19, Tryd.ntmps19
  go_wp2_with (first
    | (refine wpList_make_full _ rfl (.tmp 23) (.tmp 23) 26 rfl w.heap.size 5 i0 (.int .u8 0) 1 Tryd.underlying26 HI.out HZ0.out HZ1.out .i64 .i64 _ _ m rfl rfl rfl rfl HB2.out HB3.out (Nat.le_refl _) ?_; intro w1 hown hg; have b1 : Blk w1 w.heap.size 5 (row8 (List.replicate m 0)) := (own_blk (l := List.replicate m 0) (by rw [noughts8, ← toList_madeCells_one]; rw [Nat.mul_one] at hown; exact hown)); have B1 := Lib.hid b1; have G1 := Lib.hid (below_of_grown hg); clear hown hg b1)
    | ((with_reducible show wpList _ _ _ _ _ _); refine wpList_copy_blk rfl (.tmp 25) (.tmp 26) 26 26 rfl Tryd.underlying26 w.heap.size 0 m m 5 (row8 (List.replicate m 0)) B1.out (some ⟨w.heap.size, 0, none⟩) rfl (.slice ab m cb) rfl b (HV.out _ G1.out) m HMN.out (fun _ => rfl) (by rw [row8_len, List.length_replicate]; omega) ?_; intro w2 b2 g2; rw [HBK.out, splice_all _ _ (by rw [row8_len, row8_len, List.length_replicate]; exact HM.out.symm)] at b2; have B2 := Lib.hid b2; have G2 := Lib.hid (G1.out.grown g2 G1.out.size (fun i hi => by have e : w.heap.size = i := Option.some.inj hi; omega)); clear b2 g2))
  go_loopw [1, 11] (fun q x wr => ∃ j : Nat, j ≤ N ∧ q = .int .u64 (((n + j) % 2 ^ 64 : Nat) : Int) ∧ x = .int .i64 (512 * (j : Int)) ∧ Blk wr w.heap.size 5 (row8 (S j)) ∧ Below w.heap.size w wr) (fun _ x _ => m - (intOf x).toNat)
  case atStart => exact ⟨0, by omega, by rw [Nat.add_zero, Nat.mod_eq_of_lt HNN.out], rfl, by rw [HS0.out]; exact B2.out, G2.out⟩
  case round =>
    clear B1 G1 B2 G2
    obtain ⟨j, hj, rfl, rfl, r0, g0⟩ := hrel
    by_cases hlt : j < N
    · have hltI : 512 * (j : Int) < (m : Int) := by have := HN.out; omega
      obtain ⟨q, hq⟩ : ∃ q, q = (n + j) % 2 ^ 64 := ⟨_, rfl⟩
      obtain ⟨u, hu⟩ : ∃ u, u = (n + (j + 1)) % 2 ^ 64 := ⟨_, rfl⟩
      have hqu : ((q : Int) + 1) % 18446744073709551616 = (u : Int) := by rw [hq, hu]; omega
      have hst := HST.out j
      have hcall := HSC.out wr g0 q j (S j) (HSB.out j hj) (by rw [HSL.out j hj]; have := HN.out; omega) r0
      rw [← hq] at hst ⊢
      rw [hst] at hcall
      have HCALL := Lib.hid hcall
      have HU := Lib.hid hu
      have R0 := Lib.hid r0
      have G0 := Lib.hid g0
      have f1 : (0 : Int) ≤ 512 * (j : Int) := by omega
      have f2 : 512 * (j : Int) + 512 ≤ (m : Int) := by have := HN.out; omega
      have f3 : 512 * (j : Int) ≤ 512 * (j : Int) + 512 := by omega
      have f4 : (512 * (j : Int)).toNat = 512 * j := by omega
      have f5 : (512 * (j : Int) + 512).toNat = 512 * j + 512 := by omega
      clear hq hu hst hcall r0 g0
      go_wp2_with (go_at_call 28; (with_reducible refine HCALL.out.mono ?_); rintro e w4 ⟨rfl, b4, g4⟩; have R4 := Lib.hid b4; have G4 := Lib.hid (G0.out.grown g4 G0.out.size (fun i hi => by have e : w.heap.size = i := Option.some.inj hi; omega)); clear b4 g4)
      exact ⟨⟨j + 1, by omega, by rw [IntKind.wrap_u64, hqu, HU.out], by go_num, R4.out, G4.out⟩, by simp [intOf]; omega⟩
    · have hltI : ¬ 512 * (j : Int) < (m : Int) := by have := HN.out; omega
      obtain rfl : j = N := by omega
      have r1 := blk_rd_at r0 (HSB.out j hj) 0 m m (by rw [HSL.out j hj]; omega) (Nat.le_refl _) (by rw [HSL.out j hj]; omega)
      rw [List.drop_zero, List.take_of_length_le (by rw [HSL.out j hj]; exact Nat.le_refl _)] at r1
      have R1 := Lib.hid r1
      have G1 := Lib.hid g0
      clear r0 r1 g0
      go_wp2_with fail
      go_ret2
      exact ⟨_, rfl, R1.out, G1.out⟩
set_option maxRecDepth 100000 in
set_option maxHeartbeats 1000000 in
theorem xt_seal (x : Nat) (K L : List Nat) (n : Nat) (hn : n < 2 ^ 64) (v : Value) (b : List Nat) (w : World) (hv : Rd w v b) (h : Xt w x K L) (hx : TabX w) :
    Calls Tryd.prog 11 #[.pointer (some ⟨x, 0, none⟩), .int .u64 (n : Int), v] w fun e w' => ∃ y, e = .returned (.tuple #[y, .int .i64 (xerr b.length)]) ∧ Rd w' y (if xerr b.length = 0 then xseal (keys K) (keys L) n b else []) ∧ Below w.heap.size w w' := by
  obtain ⟨c, d, hb, hc, hd⟩ := h
  have hS := psectors_any false (keys K) (keys_bytes hc.1) (enc (keys K)) (fun s hs => enc_bytes (keys_bytes hc.1) s) 17 (.pointer (some ⟨c, 0, none⟩)) (fun a w => by go_simp) x d (.pointer (some ⟨c, 0, none⟩)) L n hn v b w hv hb hd hx (fun q c => rfl)
    (fun W hW s hs => cph_enc K c s hs W (hc.below hW) (hx.below hW))
  have c0 := hb.cell 0 _ rfl
  have hmf := run_makeFunc (.func 17) #[.pointer (some ⟨c, 0, none⟩)] #[]
  obtain ⟨ab, cb, rfl, hcb⟩ := hv.shape
  obtain ⟨m, hm⟩ : ∃ m, m = b.length := ⟨_, rfl⟩
  obtain ⟨z, hz⟩ : ∃ z, z = xerr m := ⟨_, rfl⟩
  obtain ⟨C, hC⟩ : ∃ C, C = (if xerr b.length = 0 then xseal (keys K) (keys L) n b else []) := ⟨_, rfl⟩
  rw [← hC]
  rw [if_neg (show ¬ (false = true) by decide), ← hC, ← hm, ← hz] at hS
  rw [← hm, ← hz]
  have HS := Lib.hid hS
  clear hS hc hd hv hx hC hz hm hb
  go_enter Tryd.func11, Tryd.ntmps11
  go_wp2_with (go_at_call 19; (with_reducible refine HS.out.mono ?_); rintro e w4 ⟨y, rfl, r4, b4⟩; obtain ⟨a4, c4, rfl, _⟩ := r4.shape; have R4 := Lib.hid r4; have B4 := Lib.hid b4; clear r4 b4)
  go_ret2
  exact ⟨_, rfl, R4.out, B4.out⟩
theorem xt_seal_nil (n : Int) (v : Value) (w : World) :
    Calls Tryd.prog 11 #[.pointer none, .int .u64 n, v] w fun e w' => ∃ y, e = .returned (.tuple #[y, .int .i64 1]) ∧ Below w.heap.size w w' := by
  have B0 := Lib.hid (Below.refl w.heap.size w)
  go_enter Tryd.func11, Tryd.ntmps11
  go_wp2_with fail
  go_ret2
  exact ⟨_, rfl, B0.out⟩
set_option maxRecDepth 100000 in
set_option maxHeartbeats 1000000 in
theorem xt_open (x : Nat) (K L : List Nat) (n : Nat) (hn : n < 2 ^ 64) (v : Value) (b : List Nat) (w : World) (hv : Rd w v b) (h : Xt w x K L) (hx : TabX w) (hu : TabU w) :
    Calls Tryd.prog 14 #[.pointer (some ⟨x, 0, none⟩), .int .u64 (n : Int), v] w fun e w' => ∃ y, e = .returned (.tuple #[y, .int .i64 (xerr b.length)]) ∧ Rd w' y (if xerr b.length = 0 then xopen (keys K) (keys L) n b else []) ∧ Below w.heap.size w w' := by
  obtain ⟨c, d, hb, hc, hd⟩ := h
  have hS := psectors_any true (keys K) (keys_bytes hc.1) (dec (keys K)) (fun s hs => dec_bytes (keys_bytes hc.1) hs) 22 (.pointer (some ⟨c, 0, none⟩)) (fun a w => by go_simp) x d (.pointer (some ⟨c, 0, none⟩)) L n hn v b w hv hb hd hx (fun q c => rfl)
    (fun W hW s hs => cph_dec K c s hs W (hc.below hW) (hu.below hW))
  have c0 := hb.cell 0 _ rfl
  have hmf := run_makeFunc (.func 22) #[.pointer (some ⟨c, 0, none⟩)] #[]
  obtain ⟨ab, cb, rfl, hcb⟩ := hv.shape
  obtain ⟨m, hm⟩ : ∃ m, m = b.length := ⟨_, rfl⟩
  obtain ⟨z, hz⟩ : ∃ z, z = xerr m := ⟨_, rfl⟩
  obtain ⟨C, hC⟩ : ∃ C, C = (if xerr b.length = 0 then xopen (keys K) (keys L) n b else []) := ⟨_, rfl⟩
  rw [← hC]
  rw [if_pos (show true = true from rfl), ← hC, ← hm, ← hz] at hS
  rw [← hm, ← hz]
  have HS := Lib.hid hS
  clear hS hc hd hv hx hu hC hz hm hb
  go_enter Tryd.func14, Tryd.ntmps14
  go_wp2_with (go_at_call 19; (with_reducible refine HS.out.mono ?_); rintro e w4 ⟨y, rfl, r4, b4⟩; obtain ⟨a4, c4, rfl, _⟩ := r4.shape; have R4 := Lib.hid r4; have B4 := Lib.hid b4; clear r4 b4)
  go_ret2
  exact ⟨_, rfl, R4.out, B4.out⟩
theorem xt_open_nil (n : Int) (v : Value) (w : World) :
    Calls Tryd.prog 14 #[.pointer none, .int .u64 n, v] w fun e w' => ∃ y, e = .returned (.tuple #[y, .int .i64 1]) ∧ Below w.heap.size w w' := by
  have B0 := Lib.hid (Below.refl w.heap.size w)
  go_enter Tryd.func14, Tryd.ntmps14
  go_wp2_with fail
  go_ret2
  exact ⟨_, rfl, B0.out⟩
/-- A Cipher that was made. -/
def Pred.cphx {B : Nat} (K : List Nat) : Pred B := ⟨fun v w => ∃ c, v = .pointer (some ⟨c, 0, none⟩) ∧ B ≤ c ∧ Cph w c K, false,
  fun h hb => by obtain ⟨c, e, hB, hc⟩ := h; exact ⟨c, e, hB, hc.below hb⟩,
  fun h hg _ hne => by
    obtain ⟨c, e, hB, hc⟩ := h
    refine ⟨c, e, hB, hc.grown hg fun q => ?_⟩
    rcases hne with q2 | q2
    · cases q2
    · apply q2; rw [e]; exact q⟩
set_option maxRecDepth 100000 in
set_option maxHeartbeats 1000000 in
theorem xt_new (K L : List Nat) (hK : Bytes 32 K) (hL : Bytes 32 L) (w : World) (hx : TabX w) :
    Calls Tryd.prog 10 #[.agg (row8 K).toArray, .agg (row8 L).toArray] w fun e w' => ∃ x, w.heap.size ≤ x ∧ e = .returned (.pointer (some ⟨x, 0, none⟩)) ∧ Xt w' x K L ∧ Below w.heap.size w w' := by
  have w1 := (Below.refl w.heap.size w).alloc (Nat.le_refl _) (.cells (row8 K).toArray 23)
  have w2 := w1.alloc w1.size (.cells (row8 L).toArray 23)
  obtain ⟨W2, hW2⟩ : ∃ W, W = ((w.alloc (.cells (row8 K).toArray 23)).alloc (.cells (row8 L).toArray 23)) := ⟨_, rfl⟩
  have k1 := (Blk.new w 23 (row8 K) _ rfl).alloc (.cells (row8 L).toArray 23)
  have k2 := Blk.new (w.alloc (.cells (row8 K).toArray 23)) 23 (row8 L) (w.heap.size + 1) (by simp)
  rw [← hW2] at w2 k1 k2
  have B2 := Lib.hid w2
  have K2 := Lib.hid k1
  have L2 := Lib.hid k2
  have K32 := Lib.hid (show (row8 K).length = 32 by rw [row8_len]; exact hK.1)
  have L32 := Lib.hid (show (row8 L).length = 32 by rw [row8_len]; exact hL.1)
  have HK := Lib.hid hK
  have HL := Lib.hid hL
  have HX := Lib.hid (hx.below w2)
  have HW := Lib.hid hW2
  clear w1 w2 k1 k2 hK hL hx hW2
  go_enter Tryd.func10, Tryd.ntmps10
  go_upto_region 1 with (fail)
  rw [← HW.out]
  refine wp_region_g (by kernel_rfl) 4 (by decide) (by kernel_rfl) (by kernel_rfl) (by kernel_rfl) W2.heap.size (Nat.le_refl _) [.val (.agg (row8 K).toArray), .cphx K, .val (.agg (row8 L).toArray), .cphx L] (fun _ => 7) ?_ ?_
  · refine ⟨?_, ?_, ?_, ?_, trivial⟩
    · intro a w' hF hB hd
      have e2 : a.eval (.tmp 2) = .pointer (some ⟨w.heap.size, 0, none⟩) := hF 2 (by decide +kernel)
      exact doesG_wp rfl rfl fun K' hK' => wp_load_mid 23 (.tmp 2) rfl w.heap.size 0 e2 (row8 K) _ (K2.out.below hB K2.out.lt).range Tryd.underlying23 rfl (by rw [K32.out]; exact infoKeyP) (hK' _ _ rfl (Below.refl _ _))
    · intro a w' hF hB hd
      have e5 : a.eval (.tmp 5) = .agg (row8 K).toArray := hd 0 (by decide +kernel) (.inr (by decide))
      exact doesG_made rfl (ex_call (vs := #[.agg (row8 K).toArray]) rfl (by simp only [List.map_toArray, List.map_cons, List.map_nil, e5]) (by go_simp)) ((cph_new K HK.out w' (HX.out.below hB)).mono fun e w4 hh => by
        obtain ⟨c, q1, rfl, q3, q4⟩ := hh
        exact ⟨_, rfl, ⟨c, rfl, by have := hB.size; omega, q3⟩, q4, fun g hg => by have : c = g := Option.some.inj hg; have := q3.lt; omega⟩)
    · intro a w' hF hB hd
      have e3 : a.eval (.tmp 3) = .pointer (some ⟨w.heap.size + 1, 0, none⟩) := hF 3 (by decide +kernel)
      exact doesG_wp rfl rfl fun K' hK' => wp_load_mid 23 (.tmp 3) rfl (w.heap.size + 1) 0 e3 (row8 L) _ (L2.out.below hB L2.out.lt).range Tryd.underlying23 rfl (by rw [L32.out]; exact infoKeyP) (hK' _ _ rfl (Below.refl _ _))
    · intro a w' hF hB hd
      have e7 : a.eval (.tmp 7) = .agg (row8 L).toArray := hd 2 (by decide +kernel) (.inr (by decide))
      exact doesG_made rfl (ex_call (vs := #[.agg (row8 L).toArray]) rfl (by simp only [List.map_toArray, List.map_cons, List.map_nil, e7]) (by go_simp)) ((cph_new L HL.out w' (HX.out.below hB)).mono fun e w4 hh => by
        obtain ⟨c, q1, rfl, q3, q4⟩ := hh
        exact ⟨_, rfl, ⟨c, rfl, by have := hB.size; omega, q3⟩, q4, fun g hg => by have : c = g := Option.some.inj hg; have := q3.lt; omega⟩)
  · intro vs w4 hB hv hap
    obtain ⟨c, e1, hb1, hs1⟩ : ∃ c, vs 1 = .pointer (some ⟨c, 0, none⟩) ∧ W2.heap.size ≤ c ∧ Cph w4 c K := hv 1 (by omega) (by omega)
    obtain ⟨d, e3, hb3, hs3⟩ : ∃ c, vs 3 = .pointer (some ⟨c, 0, none⟩) ∧ W2.heap.size ≤ c ∧ Cph w4 c L := hv 3 (by omega) (by omega)
    simp only [List.take_succ_cons, List.take_zero, List.drop_succ_cons, List.drop_zero, putOps, Act.put, List.setIfInBounds_toArray, List.set_cons_zero, List.set_cons_succ, e1, e3]
    have HS1 := Lib.hid hs1
    have HS3 := Lib.hid hs3
    have B4 := Lib.hid (B2.out.on hB)
    clear hv hap hs1 hs3 hB e1 e3 hb1 hb3
    go_wp2_with fail
    go_ret
    have ba := (Below.refl w4.heap.size w4).alloc (Nat.le_refl _) (.cells #[.pointer (some ⟨c, 0, none⟩), .pointer (some ⟨d, 0, none⟩)] 51)
    exact ⟨w4.heap.size, B4.out.size, rfl, ⟨c, d, Blk.new w4 51 [.pointer (some ⟨c, 0, none⟩), .pointer (some ⟨d, 0, none⟩)] _ rfl, HS1.out.below ba, HS3.out.below ba⟩, B4.out.alloc B4.out.size _⟩
end Go.Proofs.YtmidbmihadhgdaaDoor
