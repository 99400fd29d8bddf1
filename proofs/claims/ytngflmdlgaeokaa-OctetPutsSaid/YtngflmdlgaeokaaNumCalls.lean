/- A reader's numbers, bytes and texts: contracts of package octet's reader. Own work. -/
import Derived.Test.YtngflmdlgaeokaaPassCalls
import Derived.Deep.RegionWith
namespace Go.Proofs.Ytngflmdlgaeokaa
open Go.RowKit
def numStep (a b : Nat) : Nat := a * 256 % 18446744073709551616 + b
/-- The number that these bytes are. -/
def num (l : List Nat) : Nat := l.foldl numStep 0
theorem num_take (l : List Nat) (k : Nat) (hk : k < l.length) : num (l.take (k + 1)) = numStep (num (l.take k)) (gb l k) := by
  unfold num
  rw [List.take_succ_eq_append_getElem hk, List.foldl_append]
  show numStep _ _ = _
  congr 1
  unfold gb; rw [List.getD_eq_getElem?_getD, List.getElem?_eq_getElem hk]; rfl
theorem foldl_lt (l : List Nat) (hl : ∀ k, gb l k < 256) : ∀ a, a < 18446744073709551616 → l.foldl numStep a < 18446744073709551616 := by
  induction l with
  | nil => exact fun a h => h
  | cons x r ih =>
    intro a _
    rw [List.foldl_cons]
    refine ih (fun k => hl (k + 1)) _ ?_
    have hx : x < 256 := hl 0
    unfold numStep; omega
theorem num_lt (l : List Nat) (hl : ∀ k, gb l k < 256) : num l < 18446744073709551616 := foldl_lt l hl 0 (by omega)
theorem foldl_small (l : List Nat) (hl : ∀ k, gb l k < 256) : ∀ (a m : Nat), a < m → l.foldl numStep a < m * 256 ^ l.length := by
  induction l with
  | nil => intro a m h; simpa using h
  | cons x r ih =>
    intro a m h
    rw [List.foldl_cons, List.length_cons, Nat.pow_succ, Nat.mul_comm (256 ^ r.length), ← Nat.mul_assoc]
    refine ih (fun k => hl (k + 1)) _ _ ?_
    have hx : x < 256 := hl 0
    unfold numStep
    have := Nat.mod_le (a * 256) 18446744073709551616
    omega
theorem num_small (l : List Nat) (hl : ∀ k, gb l k < 256) : num l < 256 ^ l.length := by
  have h := foldl_small l hl 0 1 (by omega)
  rw [Nat.one_mul] at h; exact h
theorem num_le (l : List Nat) (hl : ∀ k, gb l k < 256) (n : Nat) (h : l.length ≤ n) : num l < 256 ^ n := Nat.lt_of_lt_of_le (num_small l hl) (Nat.pow_le_pow_right (by omega) h)
theorem Rd.at_ {w : World} {ao : Option Addr} {n cap : Nat} {l : List Nat} (h : Rd w (.slice ao n cap) l) (j : Nat) (hj : j < l.length) : ∃ ad, ao = some ad ∧ w.cell? (ad.add j) = some (.int .u8 ((gb l j : Nat) : Int)) := by
  rcases h.form with ⟨_, q⟩ | ⟨ad, cap', e, _, hs⟩
  · subst q; simp at hj
  · injection e with e2 e3 e4
    exact ⟨ad, e2, hs j hj⟩
theorem rpGot_byte {l : List Nat} (hl : ∀ k, gb l k < 256) (e n : Int) (k : Nat) : gb (rpGot l e n) k < 256 := by
  unfold rpGot; split
  · exact gb_take_byte l _ hl k
  · rw [gb_nil]; omega
theorem rpGot_len (l : List Nat) (e : Int) (n : Nat) : (rpGot l e n).length ≤ n := by
  unfold rpGot; split
  · rw [List.length_take]; omega
  · simp
theorem Rdr.byte {w : World} {rb : Nat} {l : List Nat} {e : Int} (h : Rdr w rb l e) : ∀ k, gb l k < 256 := by
  obtain ⟨sv, _, h2, _⟩ := h
  exact h2.byte
theorem or_low (a b : Nat) (hb : b < 256) : (a * 256 % 18446744073709551616 ||| b) = a * 256 % 18446744073709551616 + b := by
  have e : a * 256 % 18446744073709551616 = 2 ^ 8 * (a % 72057594037927936) := by omega
  rw [e, ← Nat.two_pow_add_eq_or_of_lt (by omega : b < 2 ^ 8)]
theorem or_step (A b : Nat) (hb : b < 256) : bits .or .u64 (IntKind.u64.wrap ((A : Int) * 256)) (b : Int) = ((numStep A b : Nat) : Int) := by
  have e : IntKind.u64.wrap ((A : Int) * 256) = ((A * 256 % 18446744073709551616 : Nat) : Int) := by
    rw [IntKind.wrap_u64]; omega
  rw [e, u64_or_nat _ _ (by omega) (by omega), or_low A b hb]
  rfl
set_option maxHeartbeats 400000 in
theorem number_any (w : World) (rb : Nat) (l : List Nat) (e n : Int) (hR : Rdr w rb l e) :
    Calls Try.prog 36 #[.func (.func 37) #[.pointer (some ⟨rb, 0, none⟩)] #[], .int .i64 n] w fun ev w' =>
      ev = .returned (.int .u64 (num (rpGot l e n) : Nat)) ∧ Rdr w' rb (rpLeft l e n) (rpErr l e n) ∧ w.grownBy w' (some rb) := by
  have hp := pass_any w rb l e n hR
  have hby := rpGot_byte hR.byte e n
  obtain ⟨L, hL⟩ : ∃ L, L = rpGot l e n := ⟨_, rfl⟩
  rw [← hL] at hp hby ⊢
  have HP := Lib.hid hp
  have HY := Lib.hid hby
  clear hp hL hR hby
  go_enter Try.func36, Try.ntmps36
  go_wp2_with (go_at_call 37; refine Calls.mono HP.out ?_; rintro ev w1 ⟨v, rfl, h1, h2, h3, h4⟩; obtain ⟨ao, cap, rfl, hcap⟩ := h1.shape; have hfit := h1.fits; have H1 := Lib.hid h1; have H2 := Lib.hid h2; have H3 := Lib.hid h3; clear h1 h2 h3 h4)
  go_loop [5, 12] (fun a i => ∃ k : Nat, k ≤ L.length ∧ i = .int .i64 k ∧ a = .int .u64 ((num (L.take k) : Nat) : Int)) (fun _ i => L.length - (intOf i).toNat)
  case atStart => exact ⟨0, Nat.zero_le _, rfl, rfl⟩
  case round =>
    obtain ⟨k, hk, rfl, rfl⟩ := hrel
    by_cases hlt : k < L.length
    · obtain ⟨ad, rfl, hc⟩ := H1.out.at_ k hlt
      have hn := num_lt (L.take k) (gb_take_byte L k HY.out)
      have hb := HY.out k
      obtain ⟨A, hA⟩ : ∃ A, A = num (L.take k) := ⟨_, rfl⟩
      obtain ⟨b, hbb⟩ : ∃ b, b = gb L k := ⟨_, rfl⟩
      rw [← hA] at hn ⊢
      rw [← hbb] at hb hc
      have HA := Lib.hid hA
      have HBB := Lib.hid hbb
      clear hA hbb
      go_wp2_with fail
      refine ⟨⟨k + 1, by omega, by go_num, ?_⟩, by simp [intOf]; omega⟩
      rw [or_step A b hb, num_take L k hlt, HA.out, HBB.out]
    · obtain rfl : k = L.length := by omega
      go_wp2_with fail
      go_ret
      exact ⟨rfl, H2.out, H3.out⟩

theorem u8_any (w : World) (rb : Nat) (l : List Nat) (e : Int) (hR : Rdr w rb l e) :
    Calls Try.prog 25 #[.pointer (some ⟨rb, 0, none⟩)] w fun ev w' => ev = .returned (.int .u8 (num (rpGot l e 1) : Nat)) ∧ Rdr w' rb (rpLeft l e 1) (rpErr l e 1) ∧ w.grownBy w' (some rb) := by
  have hp := number_any w rb l e 1 hR
  have hsm : num (rpGot l e 1) < 256 := num_le _ (rpGot_byte hR.byte e 1) 1 (rpGot_len l e 1)
  obtain ⟨A, hA⟩ : ∃ A, A = num (rpGot l e 1) := ⟨_, rfl⟩
  rw [← hA] at hp hsm ⊢
  have HP := Lib.hid hp
  clear hp hA hR
  go_enter Try.func25, Try.ntmps25
  go_wp2_with (go_at_call 36; refine Calls.mono HP.out ?_; rintro ev w1 ⟨rfl, h2, h3⟩; have H2 := Lib.hid h2; have H3 := Lib.hid h3; clear h2 h3)
  go_ret
  refine ⟨?_, H2.out, H3.out⟩
  have e2 : ((A : Int) % 256) = (A : Int) := by omega
  first | rfl | (simp [e2])

theorem u16_any (w : World) (rb : Nat) (l : List Nat) (e : Int) (hR : Rdr w rb l e) :
    Calls Try.prog 26 #[.pointer (some ⟨rb, 0, none⟩)] w fun ev w' => ev = .returned (.int .u16 (num (rpGot l e 2) : Nat)) ∧ Rdr w' rb (rpLeft l e 2) (rpErr l e 2) ∧ w.grownBy w' (some rb) := by
  have hp := number_any w rb l e 2 hR
  have hsm : num (rpGot l e 2) < 65536 := num_le _ (rpGot_byte hR.byte e 2) 2 (rpGot_len l e 2)
  obtain ⟨A, hA⟩ : ∃ A, A = num (rpGot l e 2) := ⟨_, rfl⟩
  rw [← hA] at hp hsm ⊢
  have HP := Lib.hid hp
  clear hp hA hR
  go_enter Try.func26, Try.ntmps26
  go_wp2_with (go_at_call 36; refine Calls.mono HP.out ?_; rintro ev w1 ⟨rfl, h2, h3⟩; have H2 := Lib.hid h2; have H3 := Lib.hid h3; clear h2 h3)
  go_ret
  refine ⟨?_, H2.out, H3.out⟩
  have e2 : ((A : Int) % 65536) = (A : Int) := by omega
  first | rfl | (simp [e2])

theorem u32_any (w : World) (rb : Nat) (l : List Nat) (e : Int) (hR : Rdr w rb l e) :
    Calls Try.prog 27 #[.pointer (some ⟨rb, 0, none⟩)] w fun ev w' => ev = .returned (.int .u32 (num (rpGot l e 4) : Nat)) ∧ Rdr w' rb (rpLeft l e 4) (rpErr l e 4) ∧ w.grownBy w' (some rb) := by
  have hp := number_any w rb l e 4 hR
  have hsm : num (rpGot l e 4) < 4294967296 := num_le _ (rpGot_byte hR.byte e 4) 4 (rpGot_len l e 4)
  obtain ⟨A, hA⟩ : ∃ A, A = num (rpGot l e 4) := ⟨_, rfl⟩
  rw [← hA] at hp hsm ⊢
  have HP := Lib.hid hp
  clear hp hA hR
  go_enter Try.func27, Try.ntmps27
  go_wp2_with (go_at_call 36; refine Calls.mono HP.out ?_; rintro ev w1 ⟨rfl, h2, h3⟩; have H2 := Lib.hid h2; have H3 := Lib.hid h3; clear h2 h3)
  go_ret
  refine ⟨?_, H2.out, H3.out⟩
  have e2 : ((A : Int) % 4294967296) = (A : Int) := by omega
  first | rfl | (simp [e2])

theorem u64_any (w : World) (rb : Nat) (l : List Nat) (e : Int) (hR : Rdr w rb l e) :
    Calls Try.prog 28 #[.pointer (some ⟨rb, 0, none⟩)] w fun ev w' => ev = .returned (.int .u64 (num (rpGot l e 8) : Nat)) ∧ Rdr w' rb (rpLeft l e 8) (rpErr l e 8) ∧ w.grownBy w' (some rb) := by
  have hp := number_any w rb l e 8 hR
  have HP := Lib.hid hp
  clear hp hR
  go_enter Try.func28, Try.ntmps28
  go_wp2_with (go_at_call 36; refine Calls.mono HP.out ?_; rintro ev w1 ⟨rfl, h2, h3⟩; have H2 := Lib.hid h2; have H3 := Lib.hid h3; clear h2 h3)
  go_ret
  exact ⟨rfl, H2.out, H3.out⟩

theorem take_any (w : World) (rb : Nat) (l : List Nat) (e n : Int) (hR : Rdr w rb l e) :
    Calls Try.prog 30 #[.pointer (some ⟨rb, 0, none⟩), .int .i64 n] w fun ev w' => ∃ v, ev = .returned v ∧ Own w' w.heap.size v (rpGot l e n) ∧ Rdr w' rb (rpLeft l e n) (rpErr l e n) ∧ w.grownBy w' (some rb) := by
  have HP := Lib.hid (pass_any w rb l e n hR)
  clear hR
  go_enter Try.func30, Try.ntmps30
  go_wp2_with (first | (go_at_call 37; refine Calls.mono HP.out ?_; rintro ev w1 ⟨v, rfl, h1, h2, h3, h4⟩; have H1 := Lib.hid h1; have H2 := Lib.hid h2; have H3 := Lib.hid h3; clear h1 h2 h3 h4) | (go_at_call 32; refine (clone_any v _ w1 H1.out).mono ?_; rintro ev w2 ⟨v2, rfl, k1, k2⟩; have K1 := Lib.hid k1; have K2 := Lib.hid k2; clear k1 k2))
  go_ret
  exact ⟨_, rfl, K1.out.lower H3.out.size, H2.out.below K2.out, only_trans H3.out (grown_of_below K2.out _)⟩
theorem read_any (w : World) (v : Value) (l : List Nat) (h : Rd w v l) :
    Calls Try.prog 21 #[v] w fun ev w' => ∃ rb, ev = .returned (.pointer (some ⟨rb, 0, none⟩)) ∧ Rdr w' rb l 0 ∧ Below w.heap.size w w' ∧ w.heap.size ≤ rb := by
  have H := Lib.hid h
  clear h
  go_enter Try.func21, Try.ntmps21
  go_wp2_with (go_at_call 32; refine (clone_any v l w H.out).mono ?_; rintro ev w1 ⟨v2, rfl, k1, k2⟩; obtain ⟨ao, cap, rfl, hcap⟩ := k1.rd.shape; have K1 := Lib.hid k1; have K2 := Lib.hid k2; clear k1 k2)
  go_ret
  refine ⟨w1.heap.size, rfl, ⟨_, Blk.new w1 _ _ _ rfl, K1.out.rd.alloc _, fun h => ?_⟩, (K2.out).alloc K2.out.size _, K2.out.size⟩
  have := (K1.out.from _ h).2
  omega
theorem left_any (w : World) (rb : Nat) (l : List Nat) (e : Int) (hR : Rdr w rb l e) :
    Calls Try.prog 24 #[.pointer (some ⟨rb, 0, none⟩)] w fun ev w' => ev = .returned (.int .i64 (l.length : Nat)) ∧ w = w' := by
  obtain ⟨sv, hb, hs, _⟩ := hR
  obtain ⟨ao, cap, rfl, hc⟩ := hs.shape
  have c2 := hb.cell 0 _ rfl
  clear hs hb
  go_enter Try.func24, Try.ntmps24
  go_wp2_with fail
  go_ret
  exact ⟨rfl, rfl⟩
theorem err_any (w : World) (rb : Nat) (l : List Nat) (e : Int) (hR : Rdr w rb l e) :
    Calls Try.prog 23 #[.pointer (some ⟨rb, 0, none⟩)] w fun ev w' => ev = .returned (.int .i64 e) ∧ w = w' := by
  obtain ⟨sv, hb, hs, _⟩ := hR
  have c2 := hb.cell 1 _ rfl
  clear hs hb
  go_enter Try.func23, Try.ntmps23
  go_wp2_with fail
  go_ret
  exact ⟨rfl, rfl⟩
theorem left_nil (w : World) : Calls Try.prog 24 #[.pointer none] w fun ev w' => ev = .returned (.int .i64 0) ∧ w = w' := by
  go_enter Try.func24, Try.ntmps24
  go_wp2_with fail
  go_ret
  exact ⟨rfl, rfl⟩
theorem err_nil (w : World) : Calls Try.prog 23 #[.pointer none] w fun ev w' => ev = .returned (.int .i64 1) ∧ w = w' := by
  go_enter Try.func23, Try.ntmps23
  go_wp2_with fail
  go_ret
  exact ⟨rfl, rfl⟩
/-- Behind a read of a text of at most m bytes: what was read, what is left, the error. -/
def rtGot (l : List Nat) (e m : Int) : List Nat := if e = 0 ∧ lookT m l = 0 then (l.drop 1).take (gb l 0) else []
def rtLeft (l : List Nat) (e m : Int) : List Nat := if e = 0 ∧ lookT m l = 0 then l.drop (1 + gb l 0) else []
def rtErr (l : List Nat) (e m : Int) : Int := if e = 0 then lookT m l else e
theorem rd_lookT {m : Int} {l : List Nat} (h : lookT m l = 0) : 1 + gb l 0 ≤ l.length := by
  unfold lookT at h
  split at h
  · cases h
  · omega
set_option maxHeartbeats 400000 in
theorem rtext_bad (w : World) (rb : Nat) (l : List Nat) (e m : Int) (hR : Rdr w rb l e) (hk : ¬ (e = 0 ∧ lookT m l = 0)) :
    Calls Try.prog 29 #[.pointer (some ⟨rb, 0, none⟩), .int .i64 m] w fun ev w' => ev = .returned (.string ByteArray.empty) ∧ Rdr w' rb [] (rtErr l e m) ∧ w.grownBy w' (some rb) := by
  have hb : Below w.heap.size w ((w.alloc (.cells #[.pointer (some ⟨rb, 0, none⟩)] 43)).alloc (.cells #[.int .i64 m] 3)) := ((Below.refl _ _).alloc (Nat.le_refl _) _).alloc (by simp) _
  have b1 : Blk ((w.alloc (.cells #[.pointer (some ⟨rb, 0, none⟩)] 43)).alloc (.cells #[.int .i64 m] 3)) w.heap.size 43 [.pointer (some ⟨rb, 0, none⟩)] := (Blk.new w _ _ _ rfl).alloc _
  have b2 : Blk ((w.alloc (.cells #[.pointer (some ⟨rb, 0, none⟩)] 43)).alloc (.cells #[.int .i64 m] 3)) (w.heap.size + 1) 3 [.int .i64 m] := Blk.new _ _ _ _ (by simp)
  have hs : Calls Try.prog 38 #[.pointer (some ⟨rb, 0, none⟩), .func (.func 39) #[] #[.pointer (some ⟨w.heap.size, 0, none⟩), .pointer (some ⟨w.heap.size + 1, 0, none⟩)]] ((w.alloc (.cells #[.pointer (some ⟨rb, 0, none⟩)] 43)).alloc (.cells #[.int .i64 m] 3)) fun ev w' => ev = .returned (.bool false) ∧ ((w.alloc (.cells #[.pointer (some ⟨rb, 0, none⟩)] 43)).alloc (.cells #[.int .i64 m] 3)).grownBy w' (some rb) ∧ Rdr w' rb [] (rtErr l e m) := by
    by_cases he : e = 0
    · have h := sound_text_bad _ rb (w.heap.size + 1) w.heap.size l e m (hR.below hb) b2 b1 he (fun q => hk ⟨he, q⟩)
      unfold rtErr; rw [if_pos he]; exact h
    · have h := sound_text_old _ rb (w.heap.size + 1) w.heap.size l e m (hR.below hb) b2 b1 he
      unfold rtErr; rw [if_neg he]; exact h
  have c1 := b1.cell 0 _ rfl
  have HS := Lib.hid hs
  have HB := Lib.hid hb
  clear hs hb b1 b2 hR hk
  go_enter Try.func29, Try.ntmps29
  go_wp2_with (go_at_call 38; refine Calls.mono HS.out ?_; rintro ev w1 ⟨rfl, hg, hr⟩; have HG := Lib.hid hg; have HR := Lib.hid hr; clear hg hr)
  go_ret
  exact ⟨rfl, HR.out, only_after HB.out HG.out⟩
theorem Rdr.drew {w : World} {rb : Nat} {l : List Nat} {e : Int} (h : Rdr w rb l e) : Rdr w.drew rb l e := by
  obtain ⟨sv, h1, h2, h3⟩ := h
  exact ⟨sv, h1, h2.drew, h3⟩
set_option maxHeartbeats 800000 in
theorem rtext_ok (w : World) (rb : Nat) (l : List Nat) (m : Int) (hR : Rdr w rb l 0) (hk : lookT m l = 0) :
    Calls Try.prog 29 #[.pointer (some ⟨rb, 0, none⟩), .int .i64 m] w fun ev w' => ev = .returned (.string (bstr ((l.drop 1).take (gb l 0)))) ∧ Rdr w' rb (l.drop (1 + gb l 0)) 0 ∧ w.grownBy w' (some rb) := by
  have hb : Below w.heap.size w ((w.alloc (.cells #[.pointer (some ⟨rb, 0, none⟩)] 43)).alloc (.cells #[.int .i64 m] 3)) := ((Below.refl _ _).alloc (Nat.le_refl _) _).alloc (by simp) _
  have b1 : Blk ((w.alloc (.cells #[.pointer (some ⟨rb, 0, none⟩)] 43)).alloc (.cells #[.int .i64 m] 3)) w.heap.size 43 [.pointer (some ⟨rb, 0, none⟩)] := (Blk.new w _ _ _ rfl).alloc _
  have b2 : Blk ((w.alloc (.cells #[.pointer (some ⟨rb, 0, none⟩)] 43)).alloc (.cells #[.int .i64 m] 3)) (w.heap.size + 1) 3 [.int .i64 m] := Blk.new _ _ _ _ (by simp)
  have hs := sound_text_ok _ rb (w.heap.size + 1) w.heap.size l 0 m (hR.below hb) b2 b1 rfl hk
  have hl := rd_lookT hk
  have h0 := hR.byte 0
  have g1 : rpGot l 0 1 = [gb l 0] := by
    unfold rpGot
    rw [if_pos ⟨rfl, by unfold lookP; rw [if_neg (by omega), if_neg (by omega)]⟩]
    cases l with
    | nil => simp at hl
    | cons x r => rfl
  have g2 : rpLeft l 0 1 = l.drop 1 := by
    unfold rpLeft
    rw [if_pos ⟨rfl, by unfold lookP; rw [if_neg (by omega), if_neg (by omega)]⟩]; rfl
  have g3 : rpErr l 0 1 = 0 := by
    unfold rpErr
    rw [if_pos rfl]; unfold lookP; rw [if_neg (by omega), if_neg (by omega)]
  have g4 : num [gb l 0] = gb l 0 := by unfold num numStep; simp
  have hlt := hR.lt
  obtain ⟨c, hc⟩ : ∃ c, c = gb l 0 := ⟨_, rfl⟩
  rw [← hc] at g1 g4 hl h0 ⊢
  have hu : ∀ W, Rdr W rb l 0 → Calls Try.prog 25 #[.pointer (some ⟨rb, 0, none⟩)] W fun ev w' => ev = .returned (.int .u8 (c : Nat)) ∧ Rdr w' rb (l.drop 1) 0 ∧ W.grownBy w' (some rb) := fun W hW => by
    have h := u8_any W rb l 0 hW
    rw [g1, g2, g3, g4] at h
    exact h
  have c1 := b1.cell 0 _ rfl
  have HS := Lib.hid hs
  have HB := Lib.hid hb
  have B1 := Lib.hid b1
  have HU := Lib.hid hu
  have hp : ∀ W, Rdr W rb (l.drop 1) 0 → Calls Try.prog 37 #[.pointer (some ⟨rb, 0, none⟩), .int .i64 (IntKind.i64.wrap (c : Int))] W fun ev w' => ∃ v, ev = .returned v ∧ Rd w' v ((l.drop 1).take c) ∧ Rdr w' rb ((l.drop 1).drop c) 0 ∧ W.grownBy w' (some rb) ∧ v.ownBlock ≠ some rb := fun W hW => by
    rw [show IntKind.i64.wrap (c : Int) = (c : Int) by rw [IntKind.wrap_i64]; omega]
    exact pass_ok W rb (l.drop 1) c hW (by rw [List.length_drop]; omega)
  have HP := Lib.hid hp
  clear hp
  clear hs hb b1 b2 hR hk hu g1 g2 g3 g4 hc hl
  go_enter Try.func29, Try.ntmps29
  go_wp2_with (go_at_call 38; refine Calls.mono HS.out ?_; rintro ev w1 ⟨rfl, hg, hr⟩; have HG := Lib.hid hg; have HR := Lib.hid hr; have k1 := (B1.out.grown hg (by simp; omega)); have c2 := k1.cell 0 _ rfl; have K1 := Lib.hid k1; clear hg hr c1 k1)
  have c3 : w1.drew.cell? ⟨w.heap.size, 0, none⟩ = some (.pointer (some ⟨rb, 0, none⟩)) := K1.out.drew.cell 0 _ rfl
  go_region_with (first | (go_at_call 25; refine Calls.mono (HU.out _ ?_) ?_; exact HR.out.drew; rintro ev w2 ⟨rfl, hr2, hg2⟩; have k2 := K1.out.drew.grown hg2 (by simp; omega); have c4 := k2.cell 0 _ rfl; have R2 := Lib.hid hr2; have G2 := Lib.hid hg2; clear k2 hr2 hg2) | (go_at_call 37; refine Calls.mono (HP.out _ ?_) ?_; exact R2.out; rintro ev w3 ⟨v, rfl, h1, h2, h3, h4⟩; have S3 := h1.str; have R3 := Lib.hid h2; have G3 := Lib.hid h3; clear h1 h2 h3 h4))
  all_goals go_wp2_with fail
  all_goals go_ret
  all_goals exact ⟨by rw [List.drop_one]; rfl, by rw [← List.drop_drop]; exact R3.out, only_trans (only_trans (only_after HB.out (only_dN HG.out 1)) G2.out) G3.out⟩
/-- Text, for whatever reader and whatever bound. -/
theorem rtext_any (w : World) (rb : Nat) (l : List Nat) (e m : Int) (hR : Rdr w rb l e) :
    Calls Try.prog 29 #[.pointer (some ⟨rb, 0, none⟩), .int .i64 m] w fun ev w' => ev = .returned (.string (bstr (rtGot l e m))) ∧ Rdr w' rb (rtLeft l e m) (rtErr l e m) ∧ w.grownBy w' (some rb) := by
  by_cases h : e = 0 ∧ lookT m l = 0
  · obtain ⟨rfl, hk⟩ := h
    unfold rtGot rtLeft rtErr
    rw [if_pos ⟨rfl, hk⟩, if_pos ⟨rfl, hk⟩, if_pos rfl, hk]
    exact rtext_ok w rb l m hR hk
  · have h1 := rtext_bad w rb l e m hR h
    unfold rtGot rtLeft
    rw [if_neg h, if_neg h]
    exact h1
theorem number_nil (w : World) (n : Int) :
    Calls Try.prog 36 #[.func (.func 37) #[.pointer none] #[], .int .i64 n] w fun ev w' => ev = .returned (.int .u64 0) ∧ Below w.heap.size w w' := by
  go_enter Try.func36, Try.ntmps36
  go_wp2_with (go_at_call 37; refine (pass_nil w n).mono ?_; rintro ev w1 ⟨rfl, h1⟩; have H1 := Lib.hid h1; clear h1)
  refine wp_loop_rounds 1 ?_
  rw [rounds_succ]
  go_wp2_with fail
  go_ret
  exact ⟨rfl, H1.out⟩
theorem take_nil (w : World) (n : Int) :
    Calls Try.prog 30 #[.pointer none, .int .i64 n] w fun ev w' => ∃ v, ev = .returned v ∧ Own w' w.heap.size v [] ∧ Below w.heap.size w w' := by
  go_enter Try.func30, Try.ntmps30
  go_wp2_with (first | (go_at_call 37; refine (pass_nil w n).mono ?_; rintro ev w1 ⟨rfl, h3⟩; have H3 := Lib.hid h3; clear h3) | (go_at_call 32; refine (clone_any _ [] w1 (Rd.none_ w1)).mono ?_; rintro ev w2 ⟨v2, rfl, k1, k2⟩; have K1 := Lib.hid k1; have K2 := Lib.hid k2; clear k1 k2))
  go_ret
  exact ⟨_, rfl, K1.out.lower H3.out.size, H3.out.trans (K2.out.mono H3.out.size)⟩
set_option maxHeartbeats 400000 in
theorem rtext_nil (w : World) (m : Int) :
    Calls Try.prog 29 #[.pointer none, .int .i64 m] w fun ev w' => ev = .returned (.string ByteArray.empty) ∧ Below w.heap.size w w' := by
  have hb : Below w.heap.size w ((w.alloc (.cells #[.pointer none] 43)).alloc (.cells #[.int .i64 m] 3)) := ((Below.refl _ _).alloc (Nat.le_refl _) _).alloc (by simp) _
  have b1 : Blk ((w.alloc (.cells #[.pointer none] 43)).alloc (.cells #[.int .i64 m] 3)) w.heap.size 43 [.pointer none] := (Blk.new w _ _ _ rfl).alloc _
  have c1 := b1.cell 0 _ rfl
  have HB := Lib.hid hb
  clear hb b1
  go_enter Try.func29, Try.ntmps29
  go_wp2_with (go_at_call 38; refine (sound_nil _ _ _).mono ?_; rintro ev w1 ⟨rfl, rfl⟩)
  go_ret
  exact ⟨rfl, HB.out⟩
theorem u8_nil (w : World) : Calls Try.prog 25 #[.pointer none] w fun ev w' => ev = .returned (.int .u8 0) ∧ Below w.heap.size w w' := by
  go_enter Try.func25, Try.ntmps25
  go_wp2_with (go_at_call 36; refine (number_nil w 1).mono ?_; rintro ev w1 ⟨rfl, h2⟩; have H2 := Lib.hid h2; clear h2)
  go_ret
  exact ⟨rfl, H2.out⟩
theorem u16_nil (w : World) : Calls Try.prog 26 #[.pointer none] w fun ev w' => ev = .returned (.int .u16 0) ∧ Below w.heap.size w w' := by
  go_enter Try.func26, Try.ntmps26
  go_wp2_with (go_at_call 36; refine (number_nil w 2).mono ?_; rintro ev w1 ⟨rfl, h2⟩; have H2 := Lib.hid h2; clear h2)
  go_ret
  exact ⟨rfl, H2.out⟩
theorem u32_nil (w : World) : Calls Try.prog 27 #[.pointer none] w fun ev w' => ev = .returned (.int .u32 0) ∧ Below w.heap.size w w' := by
  go_enter Try.func27, Try.ntmps27
  go_wp2_with (go_at_call 36; refine (number_nil w 4).mono ?_; rintro ev w1 ⟨rfl, h2⟩; have H2 := Lib.hid h2; clear h2)
  go_ret
  exact ⟨rfl, H2.out⟩
theorem u64_nil (w : World) : Calls Try.prog 28 #[.pointer none] w fun ev w' => ev = .returned (.int .u64 0) ∧ Below w.heap.size w w' := by
  go_enter Try.func28, Try.ntmps28
  go_wp2_with (go_at_call 36; refine (number_nil w 8).mono ?_; rintro ev w1 ⟨rfl, h2⟩; have H2 := Lib.hid h2; clear h2)
  go_ret
  exact ⟨rfl, H2.out⟩
end Go.Proofs.Ytngflmdlgaeokaa
