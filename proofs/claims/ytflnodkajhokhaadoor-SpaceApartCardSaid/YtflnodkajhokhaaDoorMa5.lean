/- Texts of 5 subjects in one file: XtsA, ShaA, ShaC, Oct, ShaB. Own work. -/
import Derived.Test.YtflnodkajhokhaaDoorMa0
import Derived.Test.YtflnodkajhokhaaDoorMa3
import Derived.WalkKit
import Derived.Deep.DeepCutAuto
import Derived.BigRegion
import Derived.StillTailTactics
import Derived.Test.YtflnodkajhokhaaDoorMa4
import Derived.Test.YtflnodkajhokhaaDoorMa1
import Derived.Great.BuildSlice
import Derived.BigQuiet
import Derived.Lib.Hide
import Derived.Laws.BitsAllLaws
import Derived.ProofKit
import Derived.LaidMore
import Derived.OpenShut
import Derived.Stop.Joined
import Derived.Lib.LaidTab
import Derived.Laws.Shifts
import Derived.Outline
section
namespace Go.Proofs.YtflnodkajhokhaaDoor
open FM
def car (l : List Nat) : Nat -> Nat
  | 0 => 0
  | k + 1 => gb l k / 128
def twTo (l : List Nat) : Nat -> List Nat
  | 0 => List.replicate 16 0
  | k + 1 => (twTo l k).set k ((gb l k * 2 % 256) ||| car l k)
def tw (l : List Nat) : List Nat := if car l 16 = 1 then (twTo l 16).set 0 (gb (twTo l 16) 0 ^^^ 135) else twTo l 16
theorem car_lt (l : List Nat) (k : Nat) (h : ∀ k, gb l k < 256) : car l k < 2 := by
  cases k with
  | zero => show 0 < 2; omega
  | succ k => have := h k; show gb l k / 128 < 2; omega
theorem or_lt {a b : Nat} (h : a < 256) (k : b < 256) : a ||| b < 256 := Nat.or_lt_two_pow (n := 8) h k
theorem twTo_len (l : List Nat) (k : Nat) : (twTo l k).length = 16 := by
  induction k with
  | zero => rfl
  | succ k ih => simp [twTo, ih]
theorem twTo_bytes (l : List Nat) (h : ∀ k, gb l k < 256) (k : Nat) (hk : k <= 16) : Bytes 16 (twTo l k) := by
  induction k with
  | zero => exact bytes_zero 16
  | succ k ih => exact bytes_set (ih (by omega)) k _ (by omega) (or_lt (by omega) (by have := car_lt l k h; omega))
theorem tw_bytes (l : List Nat) (h : ∀ k, gb l k < 256) : Bytes 16 (tw l) := by
  have b := twTo_bytes l h 16 (by omega)
  unfold tw; split
  . exact bytes_set b 0 _ (by omega) (lt_of_xor (b.2 0) (by omega))
  . exact b
end Go.Proofs.YtflnodkajhokhaaDoor
namespace Go.Proofs.YtflnodkajhokhaaDoor
open AM FM
namespace XM
def blk (b : List Nat) (q : Nat) : List Nat := (b.drop (16 * q)).take 16
def bw (f : Nat -> List Nat -> List Nat) (b : List Nat) : Nat -> List Nat
  | 0 => []
  | n + 1 => bw f b n ++ f n (blk b n)
theorem blk_len (b : List Nat) (q : Nat) (h : 16 * (q + 1) <= b.length) : (blk b q).length = 16 := by
  unfold blk; rw [List.length_take, List.length_drop]; omega
theorem blk_bytes {b : List Nat} (hb : ∀ k, gb b k < 256) (q : Nat) (h : 16 * (q + 1) <= b.length) : Bytes 16 (blk b q) := by
  refine ⟨blk_len b q h, fun k => ?_⟩
  unfold blk gb
  rw [List.getD_eq_getElem?_getD, List.getElem?_take]
  split
  . rw [List.getElem?_drop]
    have := hb (16 * q + k)
    unfold gb at this
    rwa [List.getD_eq_getElem?_getD] at this
  . show 0 < 256; omega
theorem bw_len {f : Nat -> List Nat -> List Nat} {b : List Nat} : ∀ n, (∀ q, q < n -> (f q (blk b q)).length = 16) -> (bw f b n).length = 16 * n
  | 0, _ => rfl
  | n + 1, h => by
    show (bw f b n ++ f n (blk b n)).length = _
    rw [List.length_append, bw_len n (fun q hq => h q (by omega)), h n (by omega)]; omega
theorem bw_byte {f : Nat -> List Nat -> List Nat} {b : List Nat} : ∀ n, (∀ q, q < n -> Bytes 16 (f q (blk b q))) -> ∀ k, gb (bw f b n) k < 256
  | 0, _, k => Nat.zero_lt_succ _
  | n + 1, h, k => gb_app _ _ (bw_byte n (fun q hq => h q (by omega))) (h n (by omega)).2 k
theorem bw_take {f : Nat -> List Nat -> List Nat} {b : List Nat} (n : Nat) : ∀ d, (∀ q, q < n + d -> (f q (blk b q)).length = 16) -> (bw f b (n + d)).take (16 * n) = bw f b n
  | 0, h => by
    show (bw f b n).take (16 * n) = bw f b n
    exact List.take_of_length_le (by rw [bw_len n (fun q hq => h q (by omega))]; exact Nat.le_refl _)
  | d + 1, h => by
    show (bw f b (n + d) ++ f (n + d) (blk b (n + d))).take (16 * n) = _
    rw [List.take_append_of_le_length (by rw [bw_len (n + d) (fun q hq => h q (by omega))]; omega)]
    exact bw_take n d (fun q hq => h q (by omega))
theorem blk_bw {f : Nat -> List Nat -> List Nat} {b : List Nat} (n q : Nat) (hq : q < n) (h : ∀ q, q < n -> (f q (blk b q)).length = 16) : blk (bw f b n) q = f q (blk b q) := by
  obtain ⟨d, rfl⟩ : ∃ d, n = q + 1 + d := ⟨n - (q + 1), by omega⟩
  have e := bw_take (f := f) (b := b) (q + 1) d h
  have hl := bw_len (f := f) (b := b) q (fun r hr => h r (by omega))
  have e2 : blk (bw f b (q + 1 + d)) q = blk ((bw f b (q + 1 + d)).take (16 * (q + 1))) q := by
    unfold blk
    rw [List.drop_take, List.take_take, Nat.min_eq_left (by omega)]
  rw [e2, e]
  unfold blk
  show ((bw f b q ++ f q ((b.drop (16 * q)).take 16)).drop (16 * q)).take 16 = _
  rw [List.drop_append_of_le_length (by omega), List.drop_of_length_le (by omega), List.nil_append, List.take_of_length_le]
  have := h q (by omega)
  unfold blk at this
  omega
theorem bw_congr {f g : Nat -> List Nat -> List Nat} {b c : List Nat} : ∀ n, (∀ q, q < n -> f q (blk b q) = g q (blk c q)) -> bw f b n = bw g c n
  | 0, _ => rfl
  | n + 1, h => by
    show bw f b n ++ f n (blk b n) = bw g c n ++ g n (blk c n)
    rw [bw_congr n (fun q hq => h q (by omega)), h n (by omega)]
theorem bw_self (b : List Nat) : ∀ n, 16 * n <= b.length -> bw (fun _ x => x) b n = b.take (16 * n)
  | 0, _ => by simp [bw]
  | n + 1, h => by
    show bw (fun _ x => x) b n ++ blk b n = _
    rw [bw_self b n (by omega)]
    unfold blk
    rw [show 16 * (n + 1) = 16 * n + 16 by omega, List.take_add]
theorem bw_back {f g : Nat -> List Nat -> List Nat} {b : List Nat} (n : Nat) (hn : b.length = 16 * n) (hf : ∀ q, q < n -> (f q (blk b q)).length = 16) (h : ∀ q, q < n -> g q (f q (blk b q)) = blk b q) : bw g (bw f b n) n = b := by
  rw [bw_congr (g := fun _ x => x) (c := b) n (fun q hq => by rw [blk_bw n q hq hf, h q hq]), bw_self b n (by omega), List.take_of_length_le (by omega)]
theorem bw_add {f : Nat -> List Nat -> List Nat} {b : List Nat} (m : Nat) : ∀ n, bw f b (m + n) = bw f b m ++ bw (fun q => f (m + q)) (b.drop (16 * m)) n
  | 0 => by simp [bw]
  | n + 1 => by
    show bw f b (m + n) ++ f (m + n) (blk b (m + n)) = _ ++ (bw (fun q => f (m + q)) (b.drop (16 * m)) n ++ f (m + n) (blk (b.drop (16 * m)) n))
    rw [bw_add m n, List.append_assoc]
    congr 3
    unfold blk
    rw [List.drop_drop, <- Nat.mul_add]
def num (n : Nat) : List Nat := row fun i => if i < 8 then n / 256 ^ i % 256 else 0
theorem num_bytes (n : Nat) : Bytes 16 (num n) := row_bytes _ fun k _ => by split <;> omega
def tweak (k : Nat -> List Nat) (n : Nat) : Nat -> List Nat
  | 0 => enc k (num n)
  | i + 1 => tw (tweak k n i)
theorem tweak_bytes {k : Nat -> List Nat} (hk : ∀ n, Bytes 16 (k n)) (n : Nat) : ∀ i, Bytes 16 (tweak k n i)
  | 0 => enc_bytes hk _
  | i + 1 => tw_bytes _ (tweak_bytes hk n i).2
def sb1 (k : Nat -> List Nat) (t x : List Nat) : List Nat := ax (enc k (ax x t)) t
def ob1 (k : Nat -> List Nat) (t x : List Nat) : List Nat := ax (dec k (ax x t)) t
theorem sb1_bytes {k : Nat -> List Nat} (hk : ∀ n, Bytes 16 (k n)) {t x : List Nat} (ht : Bytes 16 t) : Bytes 16 (sb1 k t x) := ax_bytes (enc_bytes hk _) ht
theorem ob1_bytes {k : Nat -> List Nat} (hk : ∀ n, Bytes 16 (k n)) {t x : List Nat} (ht : Bytes 16 t) (hx : Bytes 16 x) : Bytes 16 (ob1 k t x) := ax_bytes (dec_bytes hk (ax_bytes hx ht)) ht
theorem ob1_sb1 {k : Nat -> List Nat} (hk : ∀ n, Bytes 16 (k n)) {t x : List Nat} (ht : Bytes 16 t) (hx : Bytes 16 x) : ob1 k t (sb1 k t x) = x := by
  unfold ob1 sb1
  rw [ax_ax (enc_bytes hk _), dec_enc hk (ax_bytes hx ht), ax_ax hx]
def tq (k : Nat -> List Nat) (n q : Nat) : List Nat := tweak k ((n + q / 32) % 2 ^ 64) (q % 32)
theorem tq_bytes {k : Nat -> List Nat} (hk : ∀ n, Bytes 16 (k n)) (n q : Nat) : Bytes 16 (tq k n q) := tweak_bytes hk _ _
def sealTo (k1 k2 : Nat -> List Nat) (n : Nat) (b : List Nat) (m : Nat) : List Nat := bw (fun q => sb1 k1 (tq k2 n q)) b m
def openTo (k1 k2 : Nat -> List Nat) (n : Nat) (b : List Nat) (m : Nat) : List Nat := bw (fun q => ob1 k1 (tq k2 n q)) b m
def xseal (k1 k2 : Nat -> List Nat) (n : Nat) (b : List Nat) : List Nat := sealTo k1 k2 n b (b.length / 16)
def xopen (k1 k2 : Nat -> List Nat) (n : Nat) (b : List Nat) : List Nat := openTo k1 k2 n b (b.length / 16)
section
variable {k1 k2 : Nat -> List Nat} (h1 : ∀ n, Bytes 16 (k1 n)) (h2 : ∀ n, Bytes 16 (k2 n)) (n : Nat)
include h1 h2
theorem sealTo_len (b : List Nat) (m : Nat) : (sealTo k1 k2 n b m).length = 16 * m := bw_len m fun q _ => (sb1_bytes h1 (tq_bytes h2 n q)).1
theorem sealTo_byte (b : List Nat) (m : Nat) : ∀ k, gb (sealTo k1 k2 n b m) k < 256 := bw_byte m fun q _ => sb1_bytes h1 (tq_bytes h2 n q)
theorem openTo_byte {b : List Nat} (hb : ∀ k, gb b k < 256) (m : Nat) (hm : 16 * m <= b.length) : ∀ k, gb (openTo k1 k2 n b m) k < 256 := bw_byte m fun q hq => ob1_bytes h1 (tq_bytes h2 n q) (blk_bytes hb q (by omega))
theorem xopen_xseal {b : List Nat} (hb : ∀ k, gb b k < 256) (hl : b.length % 16 = 0) : xopen k1 k2 n (xseal k1 k2 n b) = b := by
  unfold xopen xseal
  rw [sealTo_len h1 h2, Nat.mul_div_cancel_left _ (by omega : 0 < 16)]
  exact bw_back (b.length / 16) (by omega) (fun q hq => (sb1_bytes h1 (tq_bytes h2 n q)).1) (fun q hq => ob1_sb1 h1 (tq_bytes h2 n q) (blk_bytes hb q (by omega)))
end
end XM
end Go.Proofs.YtflnodkajhokhaaDoor
namespace Go.Proofs.YtflnodkajhokhaaDoor
open AM FM
def keys (K : List Nat) : Nat -> List Nat := rk (sched K)
theorem keys_bytes {K : List Nat} (h : Bytes 32 K) (n : Nat) : Bytes 16 (keys K n) := rk_bytes (sched_bytes h.2).2 n
def xerr (n : Nat) : Int := if n % 512 ≠ 0 \/ 65536 < n then 2 else 0
theorem splice_get (L : List Nat) (o : Nat) (p : List Nat) (h : o + p.length <= L.length) (j : Nat) : gb (splice L o p) j = if j < o then gb L j else if j < o + p.length then gb p (j - o) else gb L j := by
  unfold gb splice
  rw [List.getD_eq_getElem?_getD, List.getD_eq_getElem?_getD, List.getD_eq_getElem?_getD]
  have hm : min o L.length = o := Nat.min_eq_left (by omega)
  by_cases h1 : j < o
  . rw [if_pos h1, List.getElem?_append_left (by rw [List.length_take, hm]; exact h1), List.getElem?_take, if_pos h1]
  . rw [if_neg h1, List.getElem?_append_right (by rw [List.length_take, hm]; omega), List.length_take, hm]
    by_cases h2 : j < o + p.length
    . rw [if_pos h2, List.getElem?_append_left (by omega)]
    . rw [if_neg h2, List.getElem?_append_right (by omega), List.getElem?_drop]
      congr 2; omega
theorem splice_len8 (L : List Nat) (o : Nat) (p : List Nat) (h : o + p.length <= L.length) : (splice L o p).length = L.length := length_splice L o p h
theorem row8_splice8 (o : List Nat) (f : Nat) (p : List Nat) : row8 (splice o f p) = splice (row8 o) f (row8 p) := by
  unfold splice row8
  rw [List.map_append, List.map_append, List.map_take, List.map_drop, List.length_map]
namespace XM
def sec (op : Bool) (k1 k2 : Nat -> List Nat) (n : Nat) (b : List Nat) : List Nat := if op = true then bw (fun q => ob1 k1 (tweak k2 n q)) b 32 else bw (fun q => sb1 k1 (tweak k2 n q)) b 32
def secs (op : Bool) (k1 k2 : Nat -> List Nat) (n : Nat) (b : List Nat) (m : Nat) : List Nat := if op = true then openTo k1 k2 n b (32 * m) else sealTo k1 k2 n b (32 * m)
theorem tq_more (k : Nat -> List Nat) (n j q : Nat) (hq : q < 32) : tq k n (32 * j + q) = tweak k ((n + j) % 2 ^ 64) q := by
  unfold tq
  rw [show (32 * j + q) / 32 = j by omega, show (32 * j + q) % 32 = q by omega]
theorem secs_step (op : Bool) (k1 k2 : Nat -> List Nat) (n : Nat) (b : List Nat) (j : Nat) : secs op k1 k2 n b j ++ sec op k1 k2 ((n + j) % 2 ^ 64) ((b.drop (512 * j)).take 512) = secs op k1 k2 n b (j + 1) := by
  have e : ∀ q, q < 32 -> blk ((b.drop (512 * j)).take 512) q = blk (b.drop (16 * (32 * j))) q := fun q hq => by
    unfold blk
    rw [List.drop_take, List.take_take, Nat.min_eq_left (by omega), show 16 * (32 * j) = 512 * j by omega]
  unfold secs sec openTo sealTo
  rw [show 32 * (j + 1) = 32 * j + 32 by omega]
  cases op
  . rw [if_neg (by decide), if_neg (by decide), if_neg (by decide), bw_add (32 * j) 32]
    refine congrArg _ (bw_congr 32 fun q hq => ?_)
    rw [e q hq, tq_more k2 n j q hq]
  . rw [if_pos rfl, if_pos rfl, if_pos rfl, bw_add (32 * j) 32]
    refine congrArg _ (bw_congr 32 fun q hq => ?_)
    rw [e q hq, tq_more k2 n j q hq]
theorem secs_zero (op : Bool) (k1 k2 : Nat -> List Nat) (n : Nat) (b : List Nat) : secs op k1 k2 n b 0 = [] := by
  unfold secs openTo sealTo
  cases op <;> rfl
theorem secs_all (op : Bool) (k1 k2 : Nat -> List Nat) (n : Nat) (b : List Nat) (m : Nat) (h : b.length = 512 * m) : secs op k1 k2 n b m = if op = true then xopen k1 k2 n b else xseal k1 k2 n b := by
  unfold secs xopen xseal
  rw [show b.length / 16 = 32 * m by omega]
end XM
end Go.Proofs.YtflnodkajhokhaaDoor

namespace Go.Proofs.YtflnodkajhokhaaDoor
open Go.ChangeShapes Go.WideShapes Go.ChangeAt Go.RowKit
open FM
theorem info8 : (Tryd.prog.info? 5).map (·.size) = some 1 := by kernel_rfl
theorem agg8 : ∀ w, (isAgg 5).run Tryd.prog w = .ok false w := fun _ => by kernel_rfl
set_option maxRecDepth 100000 in
set_option maxHeartbeats 400000 in
theorem twice_any (l : List Nat) (hl : Bytes 16 l) (w : World) :
    Calls Tryd.prog 79 #[.agg (row8 l).toArray] w fun e w' => e = .returned (.agg (row8 (tw l)).toArray) /\ Below w.heap.size w w' := by
  have HL := Lib.hid hl
  clear hl
  go_enter Tryd.func79, Tryd.ntmps79
  go_wp2_with (refine wpList_load_mid rfl 96 (.tmp 1) rfl w.heap.size 0 rfl (row8 l) _ (((rangeAt_new w (row8 l) 96).alloc _).alloc _) Tryd.underlying96 rfl (by rw [row8_len, HL.out.1]; exact info16) ?_)
  go_loopw [4, 8] (fun c i wr => ∃ k : Nat, k <= 16 /\ i = .int .i64 k /\ c = .int .u8 (car l k) /\ wr = ((w.alloc (.cells (row8 l).toArray 96)).alloc (.cells (row8 (twTo l 0)).toArray 96)).alloc (.cells (row8 (twTo l k)).toArray 96)) (fun _ i _ => 16 - (intOf i).toNat)
  case atStart => exact ⟨0, Nat.zero_le _, rfl, rfl, rfl⟩
  case round =>
    obtain ⟨k, hk, rfl, rfl, rfl⟩ := hrel
    by_cases hlt : k < 16
    . have hb := HL.out.2 k
      have hc : car l k < 256 := by have := car_lt l k HL.out.2; omega
      have hix := run_index_row 96 5 16 (row8 l).toArray k (.int .u8 (gb l k)) Tryd.underlying96 hlt info8 agg8 (row8_get l k (by rw [HL.out.1]; exact hlt))
      have hcell := row8_get (twTo l k) k (by rw [twTo_len]; exact hlt)
      have hor := u8_or_nat (gb l k * 2 % 256) (car l k) (by omega) hc
      have hcast : (((gb l k * 2 % 256 : Nat)) : Int) = (gb l k : Int) * 2 % 256 := by omega
      rw [hcast] at hor
      have HO := Lib.hid hor
      clear hor hcast
      go_wp2_with fail
      go_roundw
      case rel => exact ⟨k + 1, by omega, by go_num, by go_num, by rw [HO.out, row8_set]; rfl⟩
      case measure => simp [intOf]; omega
    . obtain rfl : k = 16 := by omega
      have hb := twTo_bytes l HL.out.2 16 (by omega)
      by_cases hc : car l 16 = 1
      . have htw : tw l = (twTo l 16).set 0 (gb (twTo l 16) 0 ^^^ 135) := by unfold tw; rw [if_pos hc]
        have HT := Lib.hid htw
        have ht : ((car l 16 : Int) == 1) = true := by rw [hc]; rfl
        have hcell := row8_get (twTo l 16) 0 (by rw [twTo_len]; omega)
        have hx : bits .xor .u8 ((gb (twTo l 16) 0 : Nat) : Int) 135 = ((gb (twTo l 16) 0 ^^^ 135 : Nat) : Int) := u8_xor_nat (gb (twTo l 16) 0) 135 (hb.2 0) (by omega)
        have HX := Lib.hid hx
        clear hx hc htw hb
        go_upto_region 11 with (fail)
        rw [HX.out, row8_set, <- HT.out]
        have hlen : (row8 (tw l)).length = 16 := by rw [row8_len]; exact (tw_bytes l HL.out.2).1
        have HN := Lib.hid hlen
        clear hlen
        have H1 : Hid (w.heap.size + 1 + 1 = ((w.alloc (.cells (row8 l).toArray 96)).alloc (.cells (row8 (twTo l 0)).toArray 96)).heap.size) := Lib.hid (by simp)
        have HS : Hid ((row8 (twTo l 0)).toArray.size = (row8 (tw l)).toArray.size) := Lib.hid (by rw [List.size_toArray, List.size_toArray, HN.out, row8_len]; exact twTo_len l 0)
        have H2 : Hid (w.heap.size + 1 = (w.alloc (.cells (row8 l).toArray 96)).heap.size) := Lib.hid (by simp)
        go_wp2_with (first | (refine wpList_load_mid rfl 96 (.tmp 3) rfl (w.heap.size + 1 + 1) 0 rfl (row8 (tw l)) _ (rangeAt_at _ (row8 (tw l)) 96 _ H1.out) Tryd.underlying96 rfl (by rw [HN.out]; exact info16) ?_) | (refine wpList_store_mid rfl 96 (.tmp 2) (.tmp 27) rfl (w.heap.size + 1) 0 _ rfl rfl (World.there_alloc (there_at _ (row8 (twTo l 0)).toArray _ _ _ H2.out HS.out) _) (by rw [List.size_toArray, HN.out]; exact info16) (row8_one _) ?_))
        refine bodyPost_ret (v := .agg (row8 (tw l)).toArray) (results_mid rfl _ _ (w.heap.size + 1) (row8 (tw l)) _ rfl ?_ Tryd.underlying96 rfl (by rw [HN.out]; exact info16)) rfl ⟨rfl, ?_⟩
        . have e := World.rangeAt_setCells_same (((w.alloc (.cells (row8 l).toArray 96)).alloc (.cells (row8 (twTo l 0)).toArray 96)).alloc (.cells (row8 (tw l)).toArray 96)) (w.heap.size + 1) 0 (row8 (tw l)) (by rw [HN.out]; exact World.there_alloc (there_at _ (row8 (twTo l 0)).toArray _ _ _ H2.out (by rw [List.size_toArray, row8_len]; exact twTo_len l 0)) _)
          exact e
        . exact below_setCells (w.heap.size + 1) (by omega) _ 0 _ ((((Below.refl _ _).alloc (Nat.le_refl _) _).alloc (by simp) _).alloc (by simp; omega) _)
      . have htw : tw l = twTo l 16 := by unfold tw; rw [if_neg hc]
        have HT := Lib.hid htw
        have ht : ((car l 16 : Int) == 1) = false := by simp; omega
        clear hc htw hb
        go_upto_region 11 with (fail)
        rw [<- HT.out]
        have hlen : (row8 (tw l)).length = 16 := by rw [row8_len]; exact (tw_bytes l HL.out.2).1
        have HN := Lib.hid hlen
        clear hlen
        have H1 : Hid (w.heap.size + 1 + 1 = ((w.alloc (.cells (row8 l).toArray 96)).alloc (.cells (row8 (twTo l 0)).toArray 96)).heap.size) := Lib.hid (by simp)
        have HS : Hid ((row8 (twTo l 0)).toArray.size = (row8 (tw l)).toArray.size) := Lib.hid (by rw [List.size_toArray, List.size_toArray, HN.out, row8_len]; exact twTo_len l 0)
        have H2 : Hid (w.heap.size + 1 = (w.alloc (.cells (row8 l).toArray 96)).heap.size) := Lib.hid (by simp)
        go_wp2_with (first | (refine wpList_load_mid rfl 96 (.tmp 3) rfl (w.heap.size + 1 + 1) 0 rfl (row8 (tw l)) _ (rangeAt_at _ (row8 (tw l)) 96 _ H1.out) Tryd.underlying96 rfl (by rw [HN.out]; exact info16) ?_) | (refine wpList_store_mid rfl 96 (.tmp 2) (.tmp 27) rfl (w.heap.size + 1) 0 _ rfl rfl (World.there_alloc (there_at _ (row8 (twTo l 0)).toArray _ _ _ H2.out HS.out) _) (by rw [List.size_toArray, HN.out]; exact info16) (row8_one _) ?_))
        refine bodyPost_ret (v := .agg (row8 (tw l)).toArray) (results_mid rfl _ _ (w.heap.size + 1) (row8 (tw l)) _ rfl ?_ Tryd.underlying96 rfl (by rw [HN.out]; exact info16)) rfl ⟨rfl, ?_⟩
        . have e := World.rangeAt_setCells_same (((w.alloc (.cells (row8 l).toArray 96)).alloc (.cells (row8 (twTo l 0)).toArray 96)).alloc (.cells (row8 (tw l)).toArray 96)) (w.heap.size + 1) 0 (row8 (tw l)) (by rw [HN.out]; exact World.there_alloc (there_at _ (row8 (twTo l 0)).toArray _ _ _ H2.out (by rw [List.size_toArray, row8_len]; exact twTo_len l 0)) _)
          exact e
        . exact below_setCells (w.heap.size + 1) (by omega) _ 0 _ ((((Below.refl _ _).alloc (Nat.le_refl _) _).alloc (by simp) _).alloc (by simp; omega) _)
end Go.Proofs.YtflnodkajhokhaaDoor

namespace Go.Proofs.YtflnodkajhokhaaDoor
open Go.ChangeShapes Go.WideShapes Go.ChangeAt Go.RowKit
open AM FM XM
def numTo (n k : Nat) : List Nat := row fun i => if i < k /\ i < 8 then n / 256 ^ i % 256 else 0
theorem numTo_len (n k : Nat) : (numTo n k).length = 16 := row_len _
theorem numTo_get (n k j : Nat) (h : j < 16) : gb (numTo n k) j = if j < k /\ j < 8 then n / 256 ^ j % 256 else 0 := row_get _ _ h
theorem numTo_zero (n : Nat) : numTo n 0 = List.replicate 16 0 :=
  bytes_ext (n := 16) (numTo_len _ _) List.length_replicate fun j hj => by
    rw [numTo_get _ _ _ hj, if_neg (by omega)]
    unfold gb
    rw [List.getD_eq_getElem?_getD, List.getElem?_replicate, if_pos hj]
    rfl
theorem numTo_all (n : Nat) : numTo n 8 = num n :=
  bytes_ext (n := 16) (numTo_len _ _) (num_bytes n).1 fun j hj => by
    rw [numTo_get _ _ _ hj]
    unfold num
    rw [row_get _ _ hj]
    by_cases h : j < 8
    . rw [if_pos ⟨h, h⟩, if_pos h]
    . rw [if_neg (by omega), if_neg h]
theorem numTo_step (n k : Nat) (hk : k < 8) : (numTo n k).set k (n / 256 ^ k % 256) = numTo n (k + 1) :=
  bytes_ext (n := 16) (by rw [List.length_set, numTo_len]) (numTo_len _ _) fun j hj => by
    rw [gb_set _ _ _ _ (by rw [numTo_len]; omega), numTo_get _ _ _ hj, numTo_get _ _ _ hj]
    by_cases e : k = j
    . subst e; rw [if_pos rfl, if_pos (by omega)]
    . rw [if_neg e]
      by_cases h : j < k /\ j < 8
      . rw [if_pos h, if_pos (by omega)]
      . rw [if_neg h, if_neg (by omega)]
theorem shr_num (n k : Nat) : (n : Int) / 2 ^ (8 * k) % 256 = ((n / 256 ^ k % 256 : Nat) : Int) := by
  rw [Int.natCast_emod, Int.natCast_ediv, Int.natCast_pow, show (((256 : Nat) : Int) ^ k) = (2 : Int) ^ (8 * k) by rw [Int.pow_mul]; rfl]
  rfl
end Go.Proofs.YtflnodkajhokhaaDoor
end

section
namespace Go.Proofs.YtflnodkajhokhaaDoor
namespace SM
def rr (x n : Nat) : Nat := x / 2 ^ n ||| x * 2 ^ (32 - n) % 4294967296
def s0 (x : Nat) : Nat := (rr x 7 ^^^ rr x 18) ^^^ x / 8
def s1 (x : Nat) : Nat := (rr x 17 ^^^ rr x 19) ^^^ x / 1024
def S0 (x : Nat) : Nat := (rr x 2 ^^^ rr x 13) ^^^ rr x 22
def S1 (x : Nat) : Nat := (rr x 6 ^^^ rr x 11) ^^^ rr x 25
def ch (e f g : Nat) : Nat := (e &&& f) ^^^ ((4294967295 ^^^ e) &&& g)
def mj (a b c : Nat) : Nat := ((a &&& b) ^^^ (a &&& c)) ^^^ (b &&& c)
def kk : List Nat := [0x428a2f98, 0x71374491, 0xb5c0fbcf, 0xe9b5dba5, 0x3956c25b, 0x59f111f1, 0x923f82a4, 0xab1c5ed5,
  0xd807aa98, 0x12835b01, 0x243185be, 0x550c7dc3, 0x72be5d74, 0x80deb1fe, 0x9bdc06a7, 0xc19bf174,
  0xe49b69c1, 0xefbe4786, 0x0fc19dc6, 0x240ca1cc, 0x2de92c6f, 0x4a7484aa, 0x5cb0a9dc, 0x76f988da,
  0x983e5152, 0xa831c66d, 0xb00327c8, 0xbf597fc7, 0xc6e00bf3, 0xd5a79147, 0x06ca6351, 0x14292967,
  0x27b70a85, 0x2e1b2138, 0x4d2c6dfc, 0x53380d13, 0x650a7354, 0x766a0abb, 0x81c2c92e, 0x92722c85,
  0xa2bfe8a1, 0xa81a664b, 0xc24b8b70, 0xc76c51a3, 0xd192e819, 0xd6990624, 0xf40e3585, 0x106aa070,
  0x19a4c116, 0x1e376c08, 0x2748774c, 0x34b0bcb5, 0x391c0cb3, 0x4ed8aa4a, 0x5b9cca4f, 0x682e6ff3,
  0x748f82ee, 0x78a5636f, 0x84c87814, 0x8cc70208, 0x90befffa, 0xa4506ceb, 0xbef9a3f7, 0xc67178f2]
def h0 : List Nat := [0x6a09e667, 0xbb67ae85, 0x3c6ef372, 0xa54ff53a, 0x510e527f, 0x9b05688c, 0x1f83d9ab, 0x5be0cd19]
def be4 (b : List Nat) (i : Nat) : Nat := ((gb b i * 16777216 ||| gb b (i + 1) * 65536) ||| gb b (i + 2) * 256) ||| gb b (i + 3)
def wn (w : List Nat) (t : Nat) : Nat := (s1 (gb w (t - 2)) + gb w (t - 7) + s0 (gb w (t - 15)) + gb w (t - 16)) % 4294967296
def wTo (b : List Nat) : Nat -> List Nat
  | 0 => List.replicate 64 0
  | t + 1 => (wTo b t).set t (if t < 16 then be4 b (4 * t) else wn (wTo b t) t)
def t1 (x : List Nat) (k w : Nat) : Nat := (gb x 7 + S1 (gb x 4) + ch (gb x 4) (gb x 5) (gb x 6) + k + w) % 4294967296
def t2 (x : List Nat) : Nat := (S0 (gb x 0) + mj (gb x 0) (gb x 1) (gb x 2)) % 4294967296
def rnd (x : List Nat) (k w : Nat) : List Nat :=
  [(t1 x k w + t2 x) % 4294967296, gb x 0, gb x 1, gb x 2, (gb x 3 + t1 x k w) % 4294967296, gb x 4, gb x 5, gb x 6]
def xTo (h w : List Nat) : Nat -> List Nat
  | 0 => h
  | t + 1 => rnd (xTo h w t) (gb kk t) (gb w t)
def aTo (h x : List Nat) : Nat -> List Nat
  | 0 => h
  | i + 1 => (aTo h x i).set i ((gb (aTo h x i) i + gb x i) % 4294967296)
def blk (h b : List Nat) : List Nat := aTo h (xTo h (wTo b 64) 64) 8

def Words (n : Nat) (l : List Nat) : Prop := l.length = n /\ ∀ k, gb l k < 4294967296
theorem words_zero (n : Nat) : Words n (List.replicate n 0) := by
  refine ⟨by simp, fun k => ?_⟩
  unfold gb; rw [List.getD_eq_getElem?_getD, List.getElem?_replicate]; split <;> simp
theorem words_set {n : Nat} {l : List Nat} (h : Words n l) (k v : Nat) (hv : v < 4294967296) : Words n (l.set k v) := by
  refine ⟨by rw [List.length_set]; exact h.1, fun j => ?_⟩
  by_cases hk : k < l.length
  . rw [gb_set l k v j hk]
    split
    . exact hv
    . exact h.2 j
  . rw [List.set_eq_of_length_le (by omega)]; exact h.2 j
theorem or_w {a b : Nat} (ha : a < 4294967296) (hb : b < 4294967296) : a ||| b < 4294967296 := Nat.or_lt_two_pow (n := 32) ha hb
theorem xor_w {a b : Nat} (ha : a < 4294967296) (hb : b < 4294967296) : a ^^^ b < 4294967296 := Nat.xor_lt_two_pow (n := 32) ha hb
theorem and_w {a b : Nat} (ha : a < 4294967296) : a &&& b < 4294967296 := Nat.lt_of_le_of_lt Nat.and_le_left ha
theorem rr_w {x : Nat} (n : Nat) (hx : x < 4294967296) : rr x n < 4294967296 :=
  or_w (Nat.lt_of_le_of_lt (Nat.div_le_self _ _) hx) (Nat.mod_lt _ (by omega))
theorem be4_w {b : List Nat} (h : ∀ k, gb b k < 256) (i : Nat) : be4 b i < 4294967296 := by
  have h0 := h i; have h1 := h (i + 1); have h2 := h (i + 2); have h3 := h (i + 3)
  exact or_w (or_w (or_w (by omega) (by omega)) (by omega)) (by omega)
theorem wTo_w {b : List Nat} (h : ∀ k, gb b k < 256) : ∀ t, Words 64 (wTo b t)
  | 0 => words_zero 64
  | t + 1 => by
    unfold wTo
    refine words_set (wTo_w h t) t _ ?_
    split
    . exact be4_w h _
    . exact Nat.mod_lt _ (by omega)
theorem t1_w (x : List Nat) (k w : Nat) : t1 x k w < 4294967296 := Nat.mod_lt _ (by omega)
theorem words8 {a b c d e f g h : Nat} (ha : a < 4294967296) (hb : b < 4294967296) (hc : c < 4294967296) (hd : d < 4294967296) (he : e < 4294967296) (hf : f < 4294967296) (hg : g < 4294967296) (hh : h < 4294967296) : Words 8 [a, b, c, d, e, f, g, h] := by
  refine ⟨rfl, fun k => ?_⟩
  rcases k with _ | _ | _ | _ | _ | _ | _ | _ | k
  . exact ha
  . exact hb
  . exact hc
  . exact hd
  . exact he
  . exact hf
  . exact hg
  . exact hh
  . show [a, b, c, d, e, f, g, h].getD (k + 8) 0 < _
    simp
theorem rnd_w {x : List Nat} (hx : Words 8 x) (k w : Nat) : Words 8 (rnd x k w) :=
  words8 (Nat.mod_lt _ (by omega)) (hx.2 0) (hx.2 1) (hx.2 2) (Nat.mod_lt _ (by omega)) (hx.2 4) (hx.2 5) (hx.2 6)
theorem xTo_w {h w : List Nat} (hh : Words 8 h) : ∀ t, Words 8 (xTo h w t)
  | 0 => hh
  | t + 1 => rnd_w (xTo_w hh t) _ _
theorem aTo_w {h x : List Nat} (hh : Words 8 h) : ∀ i, Words 8 (aTo h x i)
  | 0 => hh
  | i + 1 => words_set (aTo_w hh i) i _ (Nat.mod_lt _ (by omega))
theorem blk_w {h b : List Nat} (hh : Words 8 h) : Words 8 (blk h b) := aTo_w hh 8
theorem h0_w : Words 8 h0 := words8 (by omega) (by omega) (by omega) (by omega) (by omega) (by omega) (by omega) (by omega)
theorem kk_w : Words 64 kk := by
  refine ⟨rfl, fun k => ?_⟩
  by_cases hk : k < 64
  . have : ∀ k : Fin 64, gb kk k.1 < 4294967296 := by decide
    exact this ⟨k, hk⟩
  . unfold gb; rw [List.getD_eq_getElem?_getD, List.getElem?_eq_none (by show 64 <= k; omega)]; decide

def zeros (n : Nat) : Nat := (119 - n % 64) % 64
def be8 (n : Nat) : List Nat := (List.range 8).map fun i => n / 256 ^ (8 - 1 - i) % 256
def text (l : List Nat) : List Nat := l ++ 128 :: List.replicate (zeros l.length) 0 ++ be8 (8 * l.length)
def stTo (t : List Nat) : Nat -> List Nat
  | 0 => h0
  | n + 1 => blk (stTo t n) ((t.drop (64 * n)).take 64)
def out (h : List Nat) : List Nat := (List.range 32).map fun i => gb h (i / 4) / 2 ^ (24 - 8 * (i % 4)) % 256
def sha (l : List Nat) : List Nat := out (stTo (text l) ((text l).length / 64))
end SM
end Go.Proofs.YtflnodkajhokhaaDoor
namespace Go.Proofs.YtflnodkajhokhaaDoor
open Go.ChangeShapes Go.WideShapes Go.ChangeAt Go.RowKit
open SM
def row32 (l : List Nat) : List Value := l.map fun n : Nat => Value.int .u32 (n : Int)
theorem row32_len (l : List Nat) : (row32 l).length = l.length := by unfold row32; simp
theorem row32_val (l : List Nat) (k : Nat) (h : k < l.length) : (row32 l)[k]? = some (.int .u32 ((gb l k : Nat) : Int)) := by
  unfold row32 gb; rw [List.getElem?_map, List.getD_eq_getElem?_getD, List.getElem?_eq_getElem h]; rfl
theorem row32_set (l : List Nat) (k v : Nat) : (row32 l).set k (.int .u32 (v : Int)) = row32 (l.set k v) := by
  unfold row32; simp
theorem row32_one (l : List Nat) : (row32 l).toArray.all (·.oneCell') = true := by
  unfold row32; simp [Value.oneCell']
end Go.Proofs.YtflnodkajhokhaaDoor
namespace Go.Proofs.YtflnodkajhokhaaDoor
open Go.ChangeShapes Go.WideShapes Go.ChangeAt Go.RowKit
open SM
theorem be4_bits (a b c d : Nat) (ha : a < 256) (hb : b < 256) (hc : c < 256) (hd : d < 256) :
    bits .or .u32 (bits .or .u32 (bits .or .u32 ((a : Int) * 16777216) ((b : Int) * 65536)) ((c : Int) * 256)) (d : Int) = ((((a * 16777216 ||| b * 65536) ||| c * 256) ||| d : Nat) : Int) := by
  have e0 : ((a : Int) * 16777216) = ((a * 16777216 : Nat) : Int) := by simp
  have e1 : ((b : Int) * 65536) = ((b * 65536 : Nat) : Int) := by simp
  have e2 : ((c : Int) * 256) = ((c * 256 : Nat) : Int) := by simp
  rw [e0, e1, e2, u32_or_nat _ _ (by omega) (by omega), u32_or_nat _ _ (or_w (by omega) (by omega)) (by omega), u32_or_nat _ _ (or_w (or_w (by omega) (by omega)) (by omega)) (by omega)]
theorem quiet_any {P : Program} {f : FuncId} {args : Array Value} {w : World} {v : Value} {C : World -> Prop} (h : Calls P f args w fun e w' => e = .returned v /\ w' = w) (hC : C w) : Calls P f args w fun e w'' => e = .returned v /\ C w'' :=
  h.mono fun _ _ ⟨he, hm⟩ => ⟨he, hm ▸ hC⟩
theorem below_drewN {B : Nat} {a w : World} (h : Below B a w) (n : Nat) : Below B a (w.drewN n) := ⟨h.os, h.tape, h.output, h.size, h.block⟩
theorem s1_bits (x : Nat) (hx : x < 4294967296) : bits .xor .u32 (bits .xor .u32 ((rr x 17 : Nat) : Int) ((rr x 19 : Nat) : Int)) ((x : Int) / 1024) = ((s1 x : Nat) : Int) := by
  have e : ((x : Int) / 1024) = ((x / 1024 : Nat) : Int) := by simp
  rw [e, u32_xor_nat _ _ (rr_w 17 hx) (rr_w 19 hx), u32_xor_nat _ _ (xor_w (rr_w 17 hx) (rr_w 19 hx)) (by omega)]; rfl
theorem s0_bits (x : Nat) (hx : x < 4294967296) : bits .xor .u32 (bits .xor .u32 ((rr x 7 : Nat) : Int) ((rr x 18 : Nat) : Int)) ((x : Int) / 8) = ((s0 x : Nat) : Int) := by
  have e : ((x : Int) / 8) = ((x / 8 : Nat) : Int) := by simp
  rw [e, u32_xor_nat _ _ (rr_w 7 hx) (rr_w 18 hx), u32_xor_nat _ _ (xor_w (rr_w 7 hx) (rr_w 18 hx)) (by omega)]; rfl
theorem S0_bits (x : Nat) (hx : x < 4294967296) : bits .xor .u32 (bits .xor .u32 ((rr x 2 : Nat) : Int) ((rr x 13 : Nat) : Int)) ((rr x 22 : Nat) : Int) = ((S0 x : Nat) : Int) := by
  rw [u32_xor_nat _ _ (rr_w 2 hx) (rr_w 13 hx), u32_xor_nat _ _ (xor_w (rr_w 2 hx) (rr_w 13 hx)) (rr_w 22 hx)]; rfl
theorem S1_bits (x : Nat) (hx : x < 4294967296) : bits .xor .u32 (bits .xor .u32 ((rr x 6 : Nat) : Int) ((rr x 11 : Nat) : Int)) ((rr x 25 : Nat) : Int) = ((S1 x : Nat) : Int) := by
  rw [u32_xor_nat _ _ (rr_w 6 hx) (rr_w 11 hx), u32_xor_nat _ _ (xor_w (rr_w 6 hx) (rr_w 11 hx)) (rr_w 25 hx)]; rfl
theorem ch_bits (e f g : Nat) (he : e < 4294967296) (hf : f < 4294967296) (hg : g < 4294967296) : bits .xor .u32 (bits .and .u32 (e : Int) (f : Int)) (bits .and .u32 (bits .xor .u32 (if IntKind.u32.signed = true then -1 else IntKind.u32.max) (e : Int)) (g : Int)) = ((ch e f g : Nat) : Int) := by
  have m : (if IntKind.u32.signed = true then (-1 : Int) else IntKind.u32.max) = ((4294967295 : Nat) : Int) := by decide
  rw [m, u32_xor_nat _ _ (by omega) he, u32_and_nat _ _ he hf, u32_and_nat _ _ (xor_w (by omega) he) hg, u32_xor_nat _ _ (and_w he) (and_w (xor_w (by omega) he))]; rfl
theorem t1_val (x : List Nat) (k w : Nat) : ((((gb x 7 : Nat) : Int) + ((S1 (gb x 4) : Nat) : Int) + ((ch (gb x 4) (gb x 5) (gb x 6) : Nat) : Int) + (k : Int)) % 4294967296 + (w : Int)) % 4294967296 = ((t1 x k w : Nat) : Int) := by
  unfold t1; omega
theorem t2_val (x : List Nat) : (((S0 (gb x 0) : Nat) : Int) + ((mj (gb x 0) (gb x 1) (gb x 2) : Nat) : Int)) % 4294967296 = ((t2 x : Nat) : Int) := by
  unfold t2; omega
theorem mj_bits (a b c : Nat) (ha : a < 4294967296) (hb : b < 4294967296) (hc : c < 4294967296) : bits .xor .u32 (bits .xor .u32 (bits .and .u32 (a : Int) (b : Int)) (bits .and .u32 (a : Int) (c : Int))) (bits .and .u32 (b : Int) (c : Int)) = ((mj a b c : Nat) : Int) := by
  rw [u32_and_nat _ _ ha hb, u32_and_nat _ _ ha hc, u32_and_nat _ _ hb hc, u32_xor_nat _ _ (and_w ha) (and_w ha), u32_xor_nat _ _ (xor_w (and_w ha) (and_w ha)) (and_w hb)]; rfl
end Go.Proofs.YtflnodkajhokhaaDoor
end

section
namespace Go.Proofs.YtflnodkajhokhaaDoor
open Go.ChangeShapes Go.WideShapes Go.ChangeAt Go.RowKit
open SM
theorem low5 (n : Nat) (h1 : 1 <= n) (h2 : n < 32) : bits .and .u64 (IntKind.u64.wrap (-(n : Int))) 31 = ((32 - n : Nat) : Int) := by
  have e : IntKind.u64.wrap (-(n : Int)) = ((18446744073709551616 - n : Nat) : Int) := by rw [IntKind.wrap_u64]; omega
  have h := u64_and_nat (18446744073709551616 - n) 31 (by omega) (by omega)
  rw [e]
  refine h.trans ?_
  rw [show (31 : Nat) = 2 ^ 5 - 1 from rfl, Nat.and_two_pow_sub_one_eq_mod]
  omega
theorem rot_any (x n : Nat) (hx : x < 4294967296) (h1 : 1 <= n) (h2 : n < 32) (w : World) :
    Calls Tryd.prog 92 #[.int .u32 x, .int .i64 (-(n : Int))] w fun e w' => e = .returned (.int .u32 (rr x n)) /\ w' = w := by
  go_enter Tryd.func92, Tryd.ntmps92
  go_upto_region 2 with (fail)
  rw [low5 n h1 h2]
  obtain ⟨m, hm⟩ : ∃ m, m = 32 - n := ⟨_, rfl⟩
  rw [<- hm]
  have m1 : 1 <= m := by omega
  have m2 : m < 32 := by omega
  go_wp2_with fail
  go_ret
  refine ⟨?_, rfl⟩
  have e0 : 32 - (32 - n) = n := by omega
  have e1 : ((x : Int) / 2 ^ n) = ((x / 2 ^ n : Nat) : Int) := by simp
  have e2 : ((x : Int) * 2 ^ (32 - n) % 4294967296) = ((x * 2 ^ (32 - n) % 4294967296 : Nat) : Int) := by simp
  show Ending.returned (Value.int IntKind.u32 (bits BinOp.or IntKind.u32 ((x : Int) * 2 ^ (32 - n) % 4294967296) ((x : Int) / 2 ^ (32 - (32 - n))))) = _
  rw [e0, e1, e2, u32_or_nat _ _ (Nat.mod_lt _ (by omega)) (Nat.lt_of_le_of_lt (Nat.div_le_self _ _) hx), Nat.or_comm]
  rfl
theorem right_q (x n : Nat) (hx : x < 4294967296) (h1 : 1 <= n) (h2 : n < 32) (w : World) :
    Calls Tryd.prog 86 #[.int .u32 x, .int .i64 n] w fun e w' => e = .returned (.int .u32 (rr x n)) /\ w' = w := by
  go_enter Tryd.func86, Tryd.ntmps86
  go_wp2_with (go_at_call 92; refine Calls.mono (rot_any x n hx h1 h2 _) ?_; rintro e w' ⟨rfl, rfl⟩)
  go_ret
  exact ⟨rfl, rfl⟩
theorem right_c (x : Nat) (c : Int) (hx : x < 4294967296) (h1 : 1 <= c) (h2 : c < 32) (w : World) :
    Calls Tryd.prog 86 #[.int .u32 x, .int .i64 c] w fun e w' => e = .returned (.int .u32 (rr x c.toNat)) /\ w' = w := by
  obtain ⟨n, rfl⟩ : ∃ n : Nat, c = n := ⟨c.toNat, by omega⟩
  rw [Int.toNat_natCast]
  exact right_q x n hx (by omega) (by omega) w
end Go.Proofs.YtflnodkajhokhaaDoor
namespace Go.Proofs.YtflnodkajhokhaaDoor
open Go.ChangeShapes Go.WideShapes Go.ChangeAt Go.RowKit
open SM
theorem infoBlk : (Tryd.prog.info? 116).map (·.size) = some 64 := by kernel_rfl
theorem infoWds : (Tryd.prog.info? 140).map (·.size) = some 64 := by kernel_rfl
theorem infoSt : (Tryd.prog.info? 114).map (·.size) = some 8 := by kernel_rfl
set_option maxRecDepth 100000 in
set_option maxHeartbeats 1000000 in
theorem spread_any (l : List Nat) (hl : Bytes 64 l) (w : World) :
    Calls Tryd.prog 85 #[.agg (row8 l).toArray] w fun e w' => e = .returned (.agg (row32 (wTo l 64)).toArray) /\ Below w.heap.size w w' := by
  have HV := Lib.hid hl
  clear hl
  have hlen : (row8 l).length = 64 := by rw [row8_len]; exact HV.out.1
  have HLEN := Lib.hid hlen
  clear hlen
  go_enter Tryd.func85, Tryd.ntmps85
  go_wp2_with fail
  go_loopw [9] (fun i wr => ∃ k : Nat, k <= 16 /\ i = .int .i64 k /\ Blk wr w.heap.size 116 (row8 l) /\ Blk wr (w.heap.size + 1) 140 (row32 (List.replicate 64 0)) /\ Blk wr (w.heap.size + 1 + 1) 140 (row32 (wTo l k)) /\ Below w.heap.size w wr) (fun i _ => 16 - (intOf i).toNat)
  case atStart => exact ⟨0, Nat.zero_le _, rfl, ((Blk.new w _ _ _ rfl).alloc _).alloc _, (Blk.new _ _ _ _ (by simp)).alloc _, Blk.new _ _ _ _ (by simp), (((Below.refl _ _).alloc (Nat.le_refl _) _).alloc (by simp) _).alloc (by simp; omega) _⟩
  case round =>
    obtain ⟨k, hk, rfl, b0, b1, b2, bb⟩ := hrel
    by_cases hlt : k < 16
    . have c0 := b0.cell (4 * k) _ (row8_val l (4 * k) (by rw [HV.out.1]; omega))
      have c1 := b0.cell (4 * k + 1) _ (row8_val l (4 * k + 1) (by rw [HV.out.1]; omega))
      have c2 := b0.cell (4 * k + 2) _ (row8_val l (4 * k + 2) (by rw [HV.out.1]; omega))
      have c3 := b0.cell (4 * k + 3) _ (row8_val l (4 * k + 3) (by rw [HV.out.1]; omega))
      have g0 := HV.out.2 (4 * k)
      have g1 := HV.out.2 (4 * k + 1)
      have g2 := HV.out.2 (4 * k + 2)
      have g3 := HV.out.2 (4 * k + 3)
      have hfree := b2.free k
      have hcell := b2.cell k _ (row32_val _ k (by rw [(wTo_w HV.out.2 k).1]; omega))
      have B0 := Lib.hid b0
      have B1 := Lib.hid b1
      have B2 := Lib.hid b2
      have BB := Lib.hid bb
      clear b0 b1 b2 bb
      have q0 : (0 : Int) <= 4 * (k : Int) := by omega
      have q1 : 4 * (k : Int) <= 4 * (k : Int) + 4 := by omega
      have q2 : 4 * (k : Int) + 4 <= 64 := by omega
      have q3 : (4 * (k : Int)).toNat = 4 * k := by omega
      have q4 : (4 * (k : Int) + 4).toNat = 4 * k + 4 := by omega
      go_upto_region 6 with (fail)
      go_region
      go_wp2_with fail
      refine ⟨⟨k + 1, by omega, by go_num, (B0.out.other _ _ (by simp <;> omega)).drew, (B1.out.other _ _ (by simp <;> omega)).drew, ?_, (BB.out.setCell (by simp; omega) _).drew⟩, by simp [intOf]; omega⟩
      rw [be4_bits _ _ _ _ g0 g1 g2 g3]
      have := (B2.out.set k (.int .u32 ((be4 l (4 * k) : Nat) : Int))).drew
      rw [row32_set] at this
      unfold wTo
      rw [if_pos hlt]
      exact this
    . obtain rfl : k = 16 := by omega
      go_wp2_with fail
      go_loopw [6] (fun i wr => ∃ j : Nat, j <= 48 /\ i = .int .i64 ((j : Int) + 16) /\ Blk wr (w.heap.size + 1) 140 (row32 (List.replicate 64 0)) /\ Blk wr (w.heap.size + 1 + 1) 140 (row32 (wTo l (j + 16))) /\ Below w.heap.size w wr) (fun i _ => 64 - (intOf i).toNat)
      case atStart => exact ⟨0, Nat.zero_le _, rfl, b1, b2, bb⟩
      case round =>
        clear b0 b1 b2 bb
        obtain ⟨j, hj, rfl, b1, b2, bb⟩ := hrel
        by_cases hjt : j < 48
        . have hw := wTo_w HV.out.2 (j + 16)
          obtain ⟨ws, hws⟩ : ∃ ws, ws = wTo l (j + 16) := ⟨_, rfl⟩
          rw [<- hws] at hw b2
          have c2 := b2.cell (j + 14) _ (row32_val _ _ (by rw [hw.1]; omega))
          have c15 := b2.cell (j + 1) _ (row32_val _ _ (by rw [hw.1]; omega))
          have c7 := b2.cell (j + 9) _ (row32_val _ _ (by rw [hw.1]; omega))
          have c16 := b2.cell j _ (row32_val _ _ (by rw [hw.1]; omega))
          have cj := b2.cell (j + 16) _ (row32_val _ _ (by rw [hw.1]; omega))
          have hfree := b2.free (j + 16)
          have g2 := hw.2 (j + 14)
          have g15 := hw.2 (j + 1)
          have g7 := hw.2 (j + 9)
          have g16 := hw.2 j
          have B1 := Lib.hid b1
          have B2 := Lib.hid b2
          have BB := Lib.hid bb
          have HW := Lib.hid hw
          have HWS := Lib.hid hws
          clear b1 b2 bb hw hws
          go_upto_region 11 with (fail)
          go_big_quiet ((go_at_call 86; refine quiet_any (right_c _ _ ?_ ?_ ?_ _) ?_ <;> first | omega | exact ⟨_, rfl⟩))
          rw [s0_bits _ (by assumption)]
          revert nq
          intro n1
          go_upto_region 12 with (fail)
          go_big_quiet ((go_at_call 86; refine quiet_any (right_c _ _ ?_ ?_ ?_ _) ?_ <;> first | omega | exact ⟨_, rfl⟩))
          rw [s1_bits _ (by assumption)]
          go_upto_region 13 with (fail)
          have n1' : Blk ((wr.drewN n1).drewN nq) (w.heap.size + 1) 140 (row32 (List.replicate 64 0)) := B1.out
          have n2 : Blk ((wr.drewN n1).drewN nq) (w.heap.size + 1 + 1) 140 (row32 ws) := B2.out
          have nb : Below w.heap.size w ((wr.drewN n1).drewN nq) := below_drewN (below_drewN BB.out n1) nq
          generalize (wr.drewN n1).drewN nq = w2 at *
          clear c2 c15 c7 c16 cj hfree B1 B2 BB
          have c7 := n2.cell (j + 9) _ (row32_val _ _ (by rw [HW.out.1]; omega))
          have c16 := n2.cell j _ (row32_val _ _ (by rw [HW.out.1]; omega))
          have cj := n2.cell (j + 16) _ (row32_val _ _ (by rw [HW.out.1]; omega))
          have hfree := n2.free (j + 16)
          have N1 := Lib.hid n1'
          have N2 := Lib.hid n2
          have NB := Lib.hid nb
          clear n1' n2 nb
          go_region
          go_wp2_with fail
          have hval : ((((s1 (gb ws (j + 14)) : Nat) : Int) + ((gb ws (j + 9) : Nat) : Int) + ((s0 (gb ws (j + 1)) : Nat) : Int) + ((gb ws j : Nat) : Int)) % 4294967296) = ((wn ws (j + 16) : Nat) : Int) := by
            unfold wn; simp
          rw [hval]
          refine ⟨⟨j + 1, by omega, by congr 1 <;> omega, (N1.out.other _ _ (by simp <;> omega)).drew, ?_, (NB.out.setCell (by simp; omega) _).drew⟩, by simp [intOf]; omega⟩
          have := (N2.out.set (j + 16) (.int .u32 ((wn ws (j + 16) : Nat) : Int))).drew
          rw [row32_set, HWS.out] at this
          rw [show j + 1 + 16 = (j + 16) + 1 by omega]
          unfold wTo
          rw [if_neg (by omega)]
          rw [HWS.out]
          exact this
        . obtain rfl : j = 48 := by omega
          have hw := wTo_w HV.out.2 64
          obtain ⟨ws, hws⟩ : ∃ ws, ws = wTo l 64 := ⟨_, rfl⟩
          have hws' : ws = wTo l (48 + 16) := hws
          rw [<- hws'] at b2
          rw [<- hws] at hw
          have h64 : (row32 ws).length = 64 := by rw [row32_len]; exact hw.1
          have B1 := Lib.hid b1
          have B2 := Lib.hid b2
          have BB := Lib.hid bb
          have HWS := Lib.hid hws
          have H8 := Lib.hid h64
          clear b1 b2 bb hw hws hws' h64
          go_wp2_with (first | (refine wpList_load_mid rfl 140 (.tmp 3) rfl (w.heap.size + 1 + 1) 0 rfl (row32 ws) _ B2.out.range Tryd.underlying140 rfl (by rw [H8.out]; exact infoWds) ?_) | (refine wpList_store_mid rfl 140 (.tmp 2) (.tmp 96) rfl (w.heap.size + 1) 0 (row32 ws).toArray rfl rfl (B1.out.there _ (by rw [List.size_toArray, H8.out]; rfl)) (by rw [List.size_toArray, H8.out]; exact infoWds) (row32_one _) ?_))
          have fin := B1.out.whole (row32 ws) (by rw [H8.out]; rfl)
          exact bodyPost_ret (v := .agg (row32 ws).toArray) (results_mid rfl _ _ (w.heap.size + 1) (row32 ws) _ rfl fin.range Tryd.underlying140 rfl (by rw [H8.out]; exact infoWds)) rfl ⟨by rw [HWS.out], below_setCells (w.heap.size + 1) (by omega) _ 0 _ BB.out⟩
end Go.Proofs.YtflnodkajhokhaaDoor
namespace Go.Proofs.YtflnodkajhokhaaDoor
open Go.ChangeShapes Go.WideShapes Go.ChangeAt Go.RowKit
open SM
def TabP (w : World) : Prop := ∀ t, t < 64 -> w.cell? ⟨0, t, none⟩ = some (.int .u32 ((gb kk t : Nat) : Int))
theorem TabP.lt {w : World} (h : TabP w) : 0 < w.heap.size := World.block_lt_of_cell? w _ (h 0 (by omega))
theorem TabP.keep {w w' : World} (h : TabP w) (hk : w'.heap[0]? = w.heap[0]?) : TabP w' := fun t ht => by
  rw [World.cell?_of_block (w := w) hk]; exact h t ht
theorem TabP.below {w w' : World} (h : TabP w) (hb : Below w.heap.size w w') : TabP w' := h.keep (hb.block _ h.lt)
theorem TabP.grown {w w' : World} {b : Nat} (h : TabP w) (hb : w.grownBy w' (some b)) (hne : b ≠ 0) : TabP w' := h.keep (hb.block _ h.lt (by simp; omega))
theorem infoW1 : (Tryd.prog.info? 34).map (·.size) = some 1 := by kernel_rfl
theorem aggW1 : ∀ w, (isAgg 34).run Tryd.prog w = .ok false w := fun w => by simp [go_sem]
theorem row32_eight (x : List Nat) (h : x.length = 8) : (row32 x).toArray = #[.int .u32 (gb x 0 : Nat), .int .u32 (gb x 1 : Nat), .int .u32 (gb x 2 : Nat), .int .u32 (gb x 3 : Nat), .int .u32 (gb x 4 : Nat), .int .u32 (gb x 5 : Nat), .int .u32 (gb x 6 : Nat), .int .u32 (gb x 7 : Nat)] := by
  match x, h with
  | [a, b, c, d, e, f, g, i], _ => rfl
set_option maxRecDepth 100000 in
set_option maxHeartbeats 1000000 in
theorem after_any (h l : List Nat) (hh : Words 8 h) (hl : Bytes 64 l) (w : World) (ht : TabP w) :
    Calls Tryd.prog 69 #[.agg (row32 h).toArray, .agg (row8 l).toArray] w fun e w' => e = .returned (.agg (row32 (blk h l)).toArray) /\ Below w.heap.size w w' := by
  have HV := Lib.hid hl
  have HH := Lib.hid hh
  have HT := Lib.hid ht
  clear hl hh ht
  have H8 := Lib.hid (show (row32 h).length = 8 by rw [row32_len]; exact HH.out.1)
  have H64 := Lib.hid (show (row8 l).length = 64 by rw [row8_len]; exact HV.out.1)
  go_enter Tryd.func69, Tryd.ntmps69
  go_upto_region 1 with (fail)
  have b0 : Blk (((w.alloc (.cells (row32 h).toArray 114)).alloc (.cells (row8 l).toArray 116)).alloc (.cells (row32 (List.replicate 8 0)).toArray 114)) w.heap.size 114 (row32 h) := ((Blk.new w _ _ _ rfl).alloc _).alloc _
  have b1 : Blk (((w.alloc (.cells (row32 h).toArray 114)).alloc (.cells (row8 l).toArray 116)).alloc (.cells (row32 (List.replicate 8 0)).toArray 114)) (w.heap.size + 1) 116 (row8 l) := (Blk.new _ _ _ _ (by simp)).alloc _
  have b2 : Blk (((w.alloc (.cells (row32 h).toArray 114)).alloc (.cells (row8 l).toArray 116)).alloc (.cells (row32 (List.replicate 8 0)).toArray 114)) (w.heap.size + 1 + 1) 114 (row32 (List.replicate 8 0)) := Blk.new _ _ _ _ (by simp)
  have bb : Below w.heap.size w (((w.alloc (.cells (row32 h).toArray 114)).alloc (.cells (row8 l).toArray 116)).alloc (.cells (row32 (List.replicate 8 0)).toArray 114)) := (((Below.refl _ _).alloc (Nat.le_refl _) _).alloc (by simp) _).alloc (by simp; omega) _
  have hw1 : ((w.alloc (.cells (row32 h).toArray 114)).alloc (.cells (row8 l).toArray 116)).alloc (.cells (row32 (List.replicate 8 0)).toArray 114) = ((w.alloc (.cells (row32 h).toArray 114)).alloc (.cells (row8 l).toArray 116)).alloc (.cells #[.int .u32 0, .int .u32 0, .int .u32 0, .int .u32 0, .int .u32 0, .int .u32 0, .int .u32 0, .int .u32 0] 114) := rfl
  rw [hw1] at b0 b1 b2 bb
  generalize ((w.alloc (.cells (row32 h).toArray 114)).alloc (.cells (row8 l).toArray 116)).alloc (.cells #[.int .u32 0, .int .u32 0, .int .u32 0, .int .u32 0, .int .u32 0, .int .u32 0, .int .u32 0, .int .u32 0] 114) = w1 at *
  clear hw1
  have x0 := b0.cell 0 _ (row32_val _ _ (by rw [HH.out.1]; omega))
  have x1 := b0.cell 1 _ (row32_val _ _ (by rw [HH.out.1]; omega))
  have x2 := b0.cell 2 _ (row32_val _ _ (by rw [HH.out.1]; omega))
  have x3 := b0.cell 3 _ (row32_val _ _ (by rw [HH.out.1]; omega))
  have x4 := b0.cell 4 _ (row32_val _ _ (by rw [HH.out.1]; omega))
  have x5 := b0.cell 5 _ (row32_val _ _ (by rw [HH.out.1]; omega))
  have x6 := b0.cell 6 _ (row32_val _ _ (by rw [HH.out.1]; omega))
  have x7 := b0.cell 7 _ (row32_val _ _ (by rw [HH.out.1]; omega))
  have B0 := Lib.hid b0
  have B1 := Lib.hid b1
  have B2 := Lib.hid b2
  have BB := Lib.hid bb
  clear b0 b1 b2 bb
  go_quiet (fail)
  revert nq
  intro n1
  go_upto_region 2 with (fail)
  go_quiet (fail)
  have b0 : Blk ((w1.drewN n1).drewN nq) w.heap.size 114 (row32 h) := B0.out
  have b1 : Blk ((w1.drewN n1).drewN nq) (w.heap.size + 1) 116 (row8 l) := B1.out
  have b2 : Blk ((w1.drewN n1).drewN nq) (w.heap.size + 1 + 1) 114 (row32 (List.replicate 8 0)) := B2.out
  have bb : Below w.heap.size w ((w1.drewN n1).drewN nq) := below_drewN (below_drewN BB.out n1) nq
  generalize (w1.drewN n1).drewN nq = w2 at *
  clear B0 B1 B2 BB x0 x1 x2 x3 x4 x5 x6 x7
  have B0 := Lib.hid b0
  have B1 := Lib.hid b1
  have B2 := Lib.hid b2
  have BB := Lib.hid bb
  clear b0 b1 b2 bb
  go_wp2_with (first
    | (refine wpList_load_mid rfl 116 (.tmp 3) rfl (w.heap.size + 1) 0 rfl (row8 l) _ B1.out.range Tryd.underlying116 rfl (by rw [H64.out]; exact infoBlk) ?_)
    | (go_at_call 85; refine Calls.mono (spread_any l HV.out _) ?_; rintro e w3 ⟨rfl, hb3⟩; have C0 := Lib.hid (B0.out.below hb3 B0.out.lt); have C2 := Lib.hid (B2.out.below hb3 B2.out.lt); have CC := Lib.hid (BB.out.on hb3); clear hb3))
  have hw := wTo_w HV.out.2 64
  obtain ⟨ws, hws⟩ : ∃ ws, ws = wTo l 64 := ⟨_, rfl⟩
  rw [<- hws] at hw ⊢
  have HW := Lib.hid hw
  have HWS := Lib.hid hws
  clear hw hws B0 B1 B2 BB
  go_loopw [37, 5, 6, 7, 8, 9, 10, 11, 12] (fun i a b c d e f g j wr => ∃ t : Nat, t <= 64 /\ i = .int .i64 t /\ a = .int .u32 (gb (xTo h ws t) 0 : Nat) /\ b = .int .u32 (gb (xTo h ws t) 1 : Nat) /\ c = .int .u32 (gb (xTo h ws t) 2 : Nat) /\ d = .int .u32 (gb (xTo h ws t) 3 : Nat) /\ e = .int .u32 (gb (xTo h ws t) 4 : Nat) /\ f = .int .u32 (gb (xTo h ws t) 5 : Nat) /\ g = .int .u32 (gb (xTo h ws t) 6 : Nat) /\ j = .int .u32 (gb (xTo h ws t) 7 : Nat) /\ Blk wr w.heap.size 114 (row32 h) /\ Blk wr (w.heap.size + 1 + 1) 114 (row32 (List.replicate 8 0)) /\ Below w.heap.size w wr) (fun i _ _ _ _ _ _ _ _ _ => 64 - (intOf i).toNat)
  case atStart => exact ⟨0, Nat.zero_le _, rfl, rfl, rfl, rfl, rfl, rfl, rfl, rfl, rfl, C0.out, C2.out, CC.out⟩
  case round =>
    clear C0 C2 CC
    obtain ⟨t, ht, rfl, rfl, rfl, rfl, rfl, rfl, rfl, rfl, rfl, b0, b2, bb⟩ := hrel
    have hxw := xTo_w (w := ws) HH.out t
    obtain ⟨x, hx⟩ : ∃ x, x = xTo h ws t := ⟨_, rfl⟩
    rw [<- hx] at hxw ⊢
    by_cases htt : t < 64
    . have hk := HT.out.below bb t htt
      have hkw := kk_w.2 t
      have hww := HW.out.2 t
      have hix := run_index_row 140 34 64 (row32 ws).toArray t (.int .u32 ((gb ws t : Nat) : Int)) Tryd.underlying140 htt infoW1 aggW1 (by have := row32_val ws t (by rw [HW.out.1]; omega); simpa using this)
      have y0 := hxw.2 0
      have y1 := hxw.2 1
      have y2 := hxw.2 2
      have y3 := hxw.2 3
      have y4 := hxw.2 4
      have y5 := hxw.2 5
      have y6 := hxw.2 6
      have y7 := hxw.2 7
      have B0 := Lib.hid b0
      have B2 := Lib.hid b2
      have BB := Lib.hid bb
      have HX := Lib.hid hx
      clear b0 b2 bb hx hxw
      go_upto_region 6 with (fail)
      go_big_quiet ((go_at_call 86; refine quiet_any (right_c _ _ ?_ ?_ ?_ _) ?_ <;> first | omega | exact ⟨_, rfl⟩))
      rw [S1_bits _ (by assumption), ch_bits _ _ _ (by assumption) (by assumption) (by assumption)]
      have hT1 := t1_val x (gb kk t) (gb ws t)
      have hT2 := t2_val x
      have hT3 := t1_w x (gb kk t) (gb ws t)
      have HR := Lib.hid (show xTo h ws (t + 1) = rnd x (gb kk t) (gb ws t) by rw [HX.out]; rfl)
      have HA := Lib.hid (show ((((t1 x (gb kk t) (gb ws t) : Nat) : Int) + ((t2 x : Nat) : Int)) % 4294967296) = ((gb (rnd x (gb kk t) (gb ws t)) 0 : Nat) : Int) by unfold rnd gb; simp)
      have HE := Lib.hid (show ((((gb x 3 : Nat) : Int) + ((t1 x (gb kk t) (gb ws t) : Nat) : Int)) % 4294967296) = ((gb (rnd x (gb kk t) (gb ws t)) 4 : Nat) : Int) by unfold rnd gb; simp)
      have HT2 := Lib.hid hT2
      obtain ⟨T1, hT⟩ : ∃ T1, T1 = t1 x (gb kk t) (gb ws t) := ⟨_, rfl⟩
      rw [<- hT] at hT1 hT3 HA HE
      rw [hT1]
      clear hT hT1 hT2
      go_wp2_with (go_at_call 86; refine Calls.mono (right_c _ _ (by assumption) (by omega) (by omega) _) ?_; rintro e w' ⟨rfl, rfl⟩)
      rw [S0_bits _ (by assumption), mj_bits _ _ _ (by assumption) (by assumption) (by assumption), HT2.out, HA.out, HE.out]
      refine ⟨⟨t + 1, by omega, by go_num, ?_, ?_, ?_, ?_, ?_, ?_, ?_, ?_, B0.out, B2.out, below_drewN BB.out nq⟩, by simp [intOf]; omega⟩ <;> rw [HR.out] <;> rfl
    . obtain rfl : t = 64 := by omega
      have h8x := row32_eight x hxw.1
      have H8X := Lib.hid h8x
      have HX := Lib.hid hx
      have HXW := Lib.hid hxw
      have B0 := Lib.hid b0
      have B2 := Lib.hid b2
      have BB := Lib.hid bb
      clear h8x hx hxw b0 b2 bb
      go_wp2_with fail
      rw [<- H8X.out]
      go_loopw [108] (fun i wq => ∃ t : Nat, t <= 8 /\ i = .int .i64 t /\ Blk wq w.heap.size 114 (row32 (aTo h x t)) /\ Blk wq (w.heap.size + 1 + 1) 114 (row32 (List.replicate 8 0)) /\ Below w.heap.size w wq) (fun i _ => 8 - (intOf i).toNat)
      case atStart => exact ⟨0, Nat.zero_le _, rfl, B0.out, B2.out, BB.out⟩
      case round =>
        clear B0 B2 BB
        obtain ⟨t, ht, rfl, b0, b2, bb⟩ := hrel
        have haw := aTo_w (x := x) HH.out t
        by_cases htt : t < 8
        . obtain ⟨y, hy⟩ : ∃ y, y = aTo h x t := ⟨_, rfl⟩
          rw [<- hy] at b0 haw
          have c0 := b0.cell t _ (row32_val _ _ (by rw [haw.1]; omega))
          have hix := run_index_row 113 34 8 (row32 x).toArray t (.int .u32 ((gb x t : Nat) : Int)) Tryd.underlying113 htt infoW1 aggW1 (by have := row32_val x t (by rw [HXW.out.1]; omega); simpa using this)
          have hfree := b0.free t
          have g0 := haw.2 t
          have gx := HXW.out.2 t
          have B0 := Lib.hid b0
          have B2 := Lib.hid b2
          have BB := Lib.hid bb
          have HY := Lib.hid hy
          clear b0 b2 bb hy haw
          go_wp2_with fail
          have hval : (((gb y t : Nat) : Int) + ((gb x t : Nat) : Int)) % 4294967296 = (((gb y t + gb x t) % 4294967296 : Nat) : Int) := by simp
          rw [hval]
          refine ⟨⟨t + 1, by omega, by go_num, ?_, (B2.out.other _ _ (by simp <;> omega)), (BB.out.setCell (by simp) _)⟩, by simp [intOf]; omega⟩
          have := (B0.out.set t (.int .u32 (((gb y t + gb x t) % 4294967296 : Nat) : Int)))
          rw [row32_set, HY.out] at this
          unfold aTo
          rw [HY.out]
          exact this
        . obtain rfl : t = 8 := by omega
          have hb : aTo h x 8 = blk h l := by unfold blk; rw [HX.out, HWS.out]
          rw [hb] at b0 haw
          have h8 : (row32 (blk h l)).length = 8 := by rw [row32_len]; exact haw.1
          obtain ⟨y, hy⟩ : ∃ y, y = blk h l := ⟨_, rfl⟩
          rw [<- hy] at b0 haw h8
          have HYB := Lib.hid hy
          have B0 := Lib.hid b0
          have B2 := Lib.hid b2
          have BB := Lib.hid bb
          have H8y := Lib.hid h8
          clear b0 b2 bb hy haw h8 hb
          go_wp2_with (first | (refine wpList_load_mid rfl 114 (.tmp 2) rfl w.heap.size 0 rfl (row32 y) _ B0.out.range Tryd.underlying114 rfl (by rw [H8y.out]; exact infoSt) ?_) | (refine wpList_store_mid rfl 114 (.tmp 4) (.tmp 119) rfl (w.heap.size + 1 + 1) 0 (row32 y).toArray rfl rfl (B2.out.there _ (by rw [List.size_toArray, H8y.out]; rfl)) (by rw [List.size_toArray, H8y.out]; exact infoSt) (row32_one _) ?_))
          have fin := B2.out.whole (row32 y) (by rw [H8y.out]; rfl)
          exact bodyPost_ret (v := .agg (row32 y).toArray) (results_mid rfl _ _ (w.heap.size + 1 + 1) (row32 y) _ rfl fin.range Tryd.underlying114 rfl (by rw [H8y.out]; exact infoSt)) rfl ⟨by rw [HYB.out], below_setCells (w.heap.size + 1 + 1) (by omega) _ 0 _ BB.out⟩
end Go.Proofs.YtflnodkajhokhaaDoor
namespace Go.Proofs.YtflnodkajhokhaaDoor
open Go.ChangeShapes Go.WideShapes Go.ChangeAt Go.RowKit
def laidP : List (String × DataW Unit) := [("reliquary/sha.constants", Rows.laid_reliquary_sha_constants)]
theorem gP : Tryd.prog.globalNamed "reliquary/sha.constants" = some 0 := by kernel_rfl
theorem tP : (Tryd.prog.globals[0]?).map (·.type) = some 139 := by kernel_rfl
theorem cellsW' : Tryd.prog.cellsOf 34 = 1 := by kernel_rfl
theorem cellsW64' : Tryd.prog.cellsOf 139 = 64 := by kernel_rfl
theorem laid_tabP : (Rows.laid_reliquary_sha_constants : DataW Unit) = Lib.tabData .u32 (SM.kk.map fun n : Nat => (n : Int)) := rfl
theorem tabP_of_laid {W : World} (h : laidMetH Tryd.prog laidP W) : TabP W := by
  rw [MakeChecks.laidMetH_plain _ _ _ (by kernel_rfl)] at h
  unfold laidP at h
  rw [laid_tabP] at h
  have ht := Lib.tabIs_of_head gP tP Tryd.underlying139 Tryd.underlying34 cellsW' cellsW64' h
  intro t htt
  have hc := ht.cell gP t (by rw [List.length_map]; exact htt)
  rw [hc]
  unfold gb
  rw [List.getD_eq_getElem?_getD, List.getD_eq_getElem?_getD, List.getElem?_map, List.getElem?_eq_getElem (by exact htt)]
  rfl
end Go.Proofs.YtflnodkajhokhaaDoor
end

section
namespace Go.Proofs.YtflnodkajhokhaaDoor
open Go.RowKit
set_option maxRecDepth 100000 in
set_option maxHeartbeats 400000 in
theorem lay_any (n size : Nat) (_hn : n < 18446744073709551616) (hs : size <= 8) (w : World) :
    Calls Tryd.prog 59 #[.int .u64 n, .int .i64 size] w fun e w' => ∃ v, e = .returned v /\ Own w' w.heap.size v (be n size) /\ Below w.heap.size w w' := by
  obtain ⟨i0, hi, hz0, hz1, hz2⟩ := info_parts infoB
  have hb2 : i0.bytes * size <= 281474976710656 := by rw [hz2]; omega
  have hb3 : size <= maxLen := by unfold maxLen; omega
  have HI := Lib.hid hi
  have HZ0 := Lib.hid hz0
  have HZ1 := Lib.hid hz1
  have HB2 := Lib.hid hb2
  have HB3 := Lib.hid hb3
  clear hi hz0 hz1 hz2 hb2 hb3
  go_enter Tryd.func59, Tryd.ntmps59
  go_wp2_with (refine wpList_make_full _ rfl (.tmp 7) (.tmp 7) 25 rfl w.heap.size 5 i0 (.int .u8 0) 1 Tryd.underlying25 HI.out HZ0.out HZ1.out .i64 .i64 _ _ size rfl rfl rfl rfl HB2.out HB3.out (Nat.le_refl _) ?_; intro w1 hown hg; have HO := Lib.hid hown; have HG := Lib.hid hg; clear hown hg)
  have h0 : Own w1 w.heap.size (.slice (some ⟨w.heap.size, 0, none⟩) size size) (beK n size 0) := by
    refine ⟨?_, beK_byte n size 0, by rw [beK_len]; omega⟩
    rw [beK_len, beK_zero, <- toList_madeCells_one]
    have h := HO.out
    rw [Nat.mul_one] at h
    exact h
  have bb : Below w.heap.size w w1 := below_of_grown HG.out
  clear HO HG
  have H0 := Lib.hid h0
  have BB := Lib.hid bb
  clear h0 bb
  go_loopw [0, 6] (fun m i wr => ∃ j : Nat, j <= size /\ i = .int .i64 ((j : Int) - 1) /\ m = .int .u64 ((n / 256 ^ (size - j) : Nat) : Int) /\ Own wr w.heap.size (.slice (some ⟨w.heap.size, 0, none⟩) size size) (beK n size (size - j)) /\ Below w.heap.size w wr) (fun _ i _ => (intOf i + 1).toNat)
  case atStart => exact ⟨size, Nat.le_refl _, by go_num, by simp, by simpa using H0.out, BB.out⟩
  case round =>
    clear H0 BB
    obtain ⟨j, hj, rfl, rfl, ho, bb⟩ := hrel
    have HO := Lib.hid ho
    have BB := Lib.hid bb
    clear ho bb
    cases j with
    | zero =>
      go_wp2_with fail
      go_ret
      refine ⟨_, rfl, ?_, BB.out⟩
      have h := HO.out
      rw [Nat.sub_zero, beK_all] at h
      exact h
    | succ j =>
      have hc := HO.out.cell (by rw [beK_len]) j (by rw [beK_len]; omega)
      have hf := HO.out.free (by rw [beK_len]) j
      go_wp2_with fail
      have e2 : n / 256 ^ (size - (j + 1)) / 256 = n / 256 ^ (size - j) := by
        rw [Nat.div_div_eq_div_mul, <- Nat.pow_succ]; congr 2; omega
      refine ⟨⟨j, by omega, rfl, ?_, ?_, BB.out.setCell (Nat.le_refl _) _⟩, by simp [intOf]⟩
      . rw [<- e2]; simp
      . rw [<- beK_step n size j (by omega)]
        have h : Own wr w.heap.size (.slice (some ⟨w.heap.size, 0, none⟩) (beK n size (size - (j + 1))).length size) (beK n size (size - (j + 1))) := by rw [beK_len]; exact HO.out
        have h2 := h.set j (n / 256 ^ (size - (j + 1)) % 256) (Nat.mod_lt _ (by omega)) (by rw [beK_len]; omega)
        rw [beK_len] at h2
        simpa using h2
end Go.Proofs.YtflnodkajhokhaaDoor
namespace Go.Proofs.YtflnodkajhokhaaDoor
open Go.RowKit
theorem put32_any (n : Nat) (hn : n < 4294967296) (w : World) : Calls Tryd.prog 37 #[.int .u32 n] w fun e w' => ∃ v, e = .returned v /\ Own w' w.heap.size v (be n 4) /\ Below w.heap.size w w' := by
  go_enter Tryd.func37, Tryd.ntmps37
  go_wp2_with (go_at_call 59; refine (lay_any n 4 (by omega) (by omega) _).mono ?_; rintro e w1 ⟨v1, rfl, h1, h2⟩; have H1 := Lib.hid h1; have H2 := Lib.hid h2; clear h1 h2)
  go_ret
  exact ⟨_, rfl, H1.out, H2.out⟩
end Go.Proofs.YtflnodkajhokhaaDoor
namespace Go.Proofs.YtflnodkajhokhaaDoor
open Go.RowKit
theorem put64_any (n : Nat) (hn : n < 18446744073709551616) (w : World) : Calls Tryd.prog 87 #[.int .u64 n] w fun e w' => ∃ v, e = .returned v /\ Own w' w.heap.size v (be n 8) /\ Below w.heap.size w w' := by
  go_enter Tryd.func87, Tryd.ntmps87
  go_wp2_with (go_at_call 59; refine (lay_any n 8 (by omega) (by omega) _).mono ?_; rintro e w1 ⟨v1, rfl, h1, h2⟩; have H1 := Lib.hid h1; have H2 := Lib.hid h2; clear h1 h2)
  go_ret
  exact ⟨_, rfl, H1.out, H2.out⟩
end Go.Proofs.YtflnodkajhokhaaDoor
end

section
namespace Go.Proofs.YtflnodkajhokhaaDoor
open Go.ChangeShapes Go.WideShapes Go.ChangeAt Go.RowKit
open SM
theorem zeros_le (n : Nat) : zeros n < 64 := by unfold zeros; omega
theorem stTo_w {T : List Nat} : ∀ k, Words 8 (stTo T k)
  | 0 => h0_w
  | k + 1 => blk_w (stTo_w k)
theorem wraps_i64' (n : Int) (h₀ : 0 <= n) (h₁ : n < 2 ^ 62) : IntKind.i64.wrap n = n := by rw [IntKind.wrap_i64]; omega
def outK (st : List Nat) (j : Nat) : List Nat := (List.range 32).map fun i => if i < j then gb st (i / 4) / 2 ^ (24 - 8 * (i % 4)) % 256 else 0
theorem outK_len (st : List Nat) (j : Nat) : (outK st j).length = 32 := by simp [outK]
theorem outK_zero (st : List Nat) : outK st 0 = List.replicate 32 0 := rfl
theorem outK_all (st : List Nat) : outK st 32 = out st := by
  unfold outK out
  apply List.map_congr_left
  intro i hi
  rw [if_pos (by simpa using hi)]
theorem infoS : (Tryd.prog.info? 35).map (·.size) = some 32 := by kernel_rfl
end Go.Proofs.YtflnodkajhokhaaDoor
end
