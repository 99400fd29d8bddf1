/- The document's set of clusters: contracts of its New, place and Has. Own work. -/
import Derived.Test.YtlckhlcccifbfaaDoorAlPK
namespace Go.Proofs.YtlckhlcccifbfaaDoor
open Go.ChangeShapes Go.WideShapes Go.ChangeAt Go.RowKit
theorem infoSet : (Tryd.prog.info? 28).map (·.size) = some 2 := by kernel_rfl
/-- A result that is a row of cells, and two slots. -/
theorem results_mid3a {P : Program} {fn : Func} {p t t2 : Tmp} {ty : TypeId} (h : fn.results = #[.cell p ty, .tmp t, .tmp t2]) (tmps : Array Value) (w : World) (b : Nat) (cs : List Value) (d : TypeDesc)
    (hp : tmps.getD p undef = .pointer (some ⟨b, 0, none⟩)) (hr : w.rangeAt b 0 cs) (hu : P.underlying ty = some d) (hd : d.isRow = true) (hi : (P.info? ty).map (·.size) = some cs.length) :
    (results fn tmps).run P w = .ok (.tuple #[.agg cs.toArray, tmps.getD t undef, tmps.getD t2 undef]) w := by
  have hp' : tmps[p]?.getD undef = .pointer (some ⟨b, 0, none⟩) := by simpa using hp
  simp [results, h, hp', asAddr, run_loadVar_mid w b 0 ty cs d hr hu hd hi]
/-- The document's set. -/
def rs (T : Nat) (v : Value) : List Value := [.int .i64 (T : Int), v]
theorem rnew_low (t : Int) (h : t ≤ 0) (w : World) : Calls Tryd.prog 11 #[.int .i64 t] w fun e w' => e = .returned (.agg (rs 0 (.slice none 0 0)).toArray) ∧ Below w.heap.size w w' := by
  go_enter Tryd.func11, Tryd.ntmps11
  go_wp2_with fail
  exact bodyPost_ret (v := .agg (rs 0 (.slice none 0 0)).toArray) (results_mid rfl _ _ w.heap.size (rs 0 (.slice none 0 0)) _ rfl (rangeAt_at w _ _ _ rfl) Tryd.underlying28 rfl infoSet) rfl ⟨rfl, (Below.refl _ _).alloc (Nat.le_refl _) _⟩
theorem rnew_high (t : Int) (h : 65536 < t) (w : World) : Calls Tryd.prog 11 #[.int .i64 t] w fun e w' => e = .returned (.agg (rs 65536 (.slice none 0 0)).toArray) ∧ Below w.heap.size w w' := by
  go_enter Tryd.func11, Tryd.ntmps11
  go_wp2_with fail
  exact bodyPost_ret (v := .agg (rs 65536 (.slice none 0 0)).toArray) (results_mid rfl _ _ w.heap.size (rs 65536 (.slice none 0 0)) _ rfl (rangeAt_at w _ _ _ rfl) Tryd.underlying28 rfl infoSet) rfl ⟨rfl, (Below.refl _ _).alloc (Nat.le_refl _) _⟩
theorem rnew_mid (T : Nat) (h : T ≤ 65536) (h0 : 0 < T) (w : World) : Calls Tryd.prog 11 #[.int .i64 (T : Int)] w fun e w' => e = .returned (.agg (rs T (.slice none 0 0)).toArray) ∧ Below w.heap.size w w' := by
  go_enter Tryd.func11, Tryd.ntmps11
  go_wp2_with fail
  exact bodyPost_ret (v := .agg (rs T (.slice none 0 0)).toArray) (results_mid rfl _ _ w.heap.size (rs T (.slice none 0 0)) _ rfl (rangeAt_at w _ _ _ rfl) Tryd.underlying28 rfl infoSet) rfl ⟨rfl, (Below.refl _ _).alloc (Nat.le_refl _) _⟩
theorem rnew_any (t : Int) (w : World) : Calls Tryd.prog 11 #[.int .i64 t] w fun e w' => e = .returned (.agg (rs (most t) (.slice none 0 0)).toArray) ∧ Below w.heap.size w w' := by
  by_cases h1 : t ≤ 0
  · have e : most t = 0 := by unfold most; omega
    rw [e]; exact rnew_low t h1 w
  · by_cases h2 : 65536 < t
    · have e : most t = 65536 := by unfold most; omega
      rw [e]; exact rnew_high t h2 w
    · obtain ⟨T, hT⟩ : ∃ T : Nat, t = (T : Int) := ⟨t.toNat, by omega⟩
      subst hT
      have e : most (T : Int) = T := by unfold most; omega
      rw [e]; exact rnew_mid T (by omega) (by omega) w
set_option maxHeartbeats 400000 in
theorem place_any (T n : Nat) (l : List Nat) (v : Value) (w : World) (hv : Wd w v l) : Calls Tryd.prog 32 #[.agg #[.int .i64 (T : Int), v], .int .u32 (n : Int)] w fun e w' => ∃ i, AL.Spot l n i ∧ e = .returned (.tuple #[.int .i64 ((i : Nat) : Int), .bool (decide (i < l.length ∧ gb l i = n))]) ∧ Below w.heap.size w w' := by
  obtain ⟨ao, cap, rfl, hcv⟩ := hv.shape
  have fl := hv.fits
  have HV := Lib.hid hv
  clear hv
  go_enter Tryd.func32, Tryd.ntmps32
  go_upto_region 2 with (fail)
  have hbk : Blk (w.alloc (.cells #[.int .i64 (T : Int), .slice ao l.length cap] 28)) w.heap.size 28 [.int .i64 (T : Int), .slice ao l.length cap] := Blk.new w _ _ _ rfl
  have HK := Lib.hid hbk
  have HW := Lib.hid ((Below.refl w.heap.size w).alloc (Nat.le_refl _) (.cells #[.int .i64 (T : Int), .slice ao l.length cap] 28))
  clear hbk
  go_loopw [6] (fun x wr => ∃ i : Nat, i ≤ l.length ∧ x = .int .i64 (i : Int) ∧ (∀ j, j < i → gb l j < n) ∧ Blk wr w.heap.size 28 [.int .i64 (T : Int), .slice ao l.length cap] ∧ Below w.heap.size w wr) (fun x _ => l.length - (intOf x).toNat)
  case atStart => exact ⟨0, Nat.zero_le _, rfl, fun j hj => absurd hj (by omega), HK.out, HW.out⟩
  case round =>
    obtain ⟨i, hi, hx, hlow, bk, bw⟩ := hrel
    subst hx
    have BW := Lib.hid bw
    have BK := Lib.hid bk
    have HL := Lib.hid hlow
    have c1 : wr.cell? ⟨w.heap.size, 1, none⟩ = some (.slice ao l.length cap) := bk.cell 1 _ rfl
    clear bw bk hlow
    by_cases hlt : i < l.length
    · obtain ⟨ad, rfl, hc⟩ := (HV.out.below BW.out).at_ i hlt
      have b1 := HV.out.word i
      have kl : (i : Int) < (l.length : Int) := by omega
      by_cases hq : gb l i < n
      · have hqI : (gb l i : Int) < (n : Int) := by omega
        go_wp2_with fail
        exact ⟨⟨i + 1, by omega, by go_num, fun j hj => by
          by_cases e : j = i
          · rw [e]; exact hq
          · exact HL.out j (by omega), BK.out, BW.out⟩, by simp [intOf]; omega⟩
      · have hqI : ¬ (gb l i : Int) < (n : Int) := by omega
        have hqD : decide ((gb l i : Int) < (n : Int)) = false := by simp; omega
        by_cases he : gb l i = n
        · have heI : ((gb l i : Int) == (n : Int)) = true := by simp; omega
          go_wp2_with fail
          go_big_quiet (fail)
          go_wp2_with fail
          go_ret2
          refine ⟨i, ⟨hi, HL.out, fun _ => by unfold gb at hq; omega⟩, ?_, below_dN BW.out nq⟩
          rw [show decide (i < l.length ∧ gb l i = n) = true by simp [hlt, he]]
          rfl
        · have heI : ((gb l i : Int) == (n : Int)) = false := by simp; omega
          go_wp2_with fail
          go_big_quiet (fail)
          go_wp2_with fail
          go_ret2
          refine ⟨i, ⟨hi, HL.out, fun _ => by unfold gb at hq; omega⟩, ?_, below_dN BW.out nq⟩
          rw [show decide (i < l.length ∧ gb l i = n) = false by simp [he]]
          rfl
    · obtain rfl : i = l.length := by omega
      go_wp2_with fail
      go_big_quiet (fail)
      go_wp2_with fail
      go_ret2
      refine ⟨l.length, ⟨hi, HL.out, fun h => absurd h (by omega)⟩, ?_, below_dN BW.out nq⟩
      rw [show decide (l.length < l.length ∧ gb l l.length = n) = false by simp]
      rfl
end Go.Proofs.YtlckhlcccifbfaaDoor
