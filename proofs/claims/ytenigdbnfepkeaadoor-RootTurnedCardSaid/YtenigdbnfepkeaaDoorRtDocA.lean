/- Texts of one subject in one file: RtMay, Chain, RtPutR. Own work. -/
import Derived.Test.YtenigdbnfepkeaaDoorRtM
import Derived.Test.YtenigdbnfepkeaaDoorReg
import Derived.BigQuiet
import Derived.Test.YtenigdbnfepkeaaDoorTwoApp
import Derived.Test.YtenigdbnfepkeaaDoorFactsW
import Derived.Test.YtenigdbnfepkeaaDoorAppFull
import Derived.Test.YtenigdbnfepkeaaDoorOct
import Derived.Test.YtenigdbnfepkeaaDoorHmacR
import Derived.Test.YtenigdbnfepkeaaDoorShaD
import Derived.Test.YtenigdbnfepkeaaDoorFillX
import Derived.Test.YtenigdbnfepkeaaDoorEqX
import Derived.Lib.SlBytesConst
import Derived.Deep.DeepCutAuto
/- May a root be: contract of the document's answer. Own work. -/
namespace Go.Proofs.YtenigdbnfepkeaaDoor
open Go.ChangeShapes Go.WideShapes Go.ChangeAt Go.RowKit
open RT
/-- The at of the k-th ref, where it lies. -/
theorem ref_at {w : World} {ao : Option Addr} {cap : Nat} {ps : List Pg} (h : RdT 33 w (.slice ao ps.length cap) ps.length (pcs ps)) (hp : ∀ p ∈ ps, Pok p) {k : Nat} (hk : k < ps.length) :
    ∃ b off, ao = some ⟨b, off, none⟩ ∧ ∀ i u, i < 33 → (pc ps[k])[i]? = some u → w.cell? ⟨b, off + (k * 33 + i), none⟩ = some u := by
  obtain ⟨b, off, e, hc⟩ := h.at_ (by decide) k hk
  exact ⟨b, off, e, fun i u hi hu => hc i u hi (by rw [pcs_get hp hk hi]; exact hu)⟩
set_option maxRecDepth 100000 in
set_option maxHeartbeats 1000000 in
theorem rrmay_any (r : Rt) (hr : RT.Ok r) (v : Value) (w : World) (hv : RdT 33 w v r.pages.length (pcs r.pages)) : Calls Tryd.prog 22 #[.agg (rtc r v).toArray] w fun e w' => e = .returned (.bool (may r)) ∧ Below w.heap.size w w' := by
  obtain ⟨pa, pcap, rfl, hpc⟩ := hv.shape
  obtain ⟨L, hL⟩ : ∃ L, L = rtc r (.slice pa r.pages.length pcap) := ⟨_, rfl⟩
  obtain ⟨R, hR⟩ : ∃ R, R = may r := ⟨_, rfl⟩
  have hb := Blk.new w 27 L _ rfl
  have c33 := hb.cell 33 _ (by rw [hL]; exact rtc_area hr _)
  have c66 := hb.cell 66 _ (by rw [hL]; exact rtc_lenc hr _)
  have c67 := hb.cell 67 _ (by rw [hL]; exact rtc_pages hr _)
  have W1 := Lib.hid ((Below.refl w.heap.size w).alloc (Nat.le_refl _) (.cells L.toArray 27))
  have HV := Lib.hid (hv.below W1.out)
  have HPK := Lib.hid hr.pages
  have harea := hr.area
  have hlen := hr.len
  have HM := Lib.hid (may_iff (r := r))
  rw [← hR] at HM
  obtain ⟨ps, hps⟩ : ∃ ps, ps = r.pages := ⟨_, rfl⟩
  obtain ⟨area, ha⟩ : ∃ x, x = r.area := ⟨_, rfl⟩
  obtain ⟨len, hl⟩ : ∃ x, x = r.len := ⟨_, rfl⟩
  rw [← hps] at HV HPK HM c67
  rw [← ha] at c33 harea HM
  rw [← hl] at c66 hlen HM
  rw [← hL, ← hR]
  obtain ⟨n, hn⟩ : ∃ n, n = ps.length := ⟨_, rfl⟩
  rw [← hn] at c67
  have HN := Lib.hid hn
  clear hv hb hL hR hps ha hl hr hpc hn
  by_cases h1 : area = 0 ∨ area = 1
  · have HA := Lib.hid h1
    rcases h1 with h1 | h1
    · subst h1
      by_cases h2 : 0 ≤ len
      · by_cases h3 : len ≤ 8192
        · by_cases h4 : n ≤ 8
          · have h2' : ¬ len < 0 := by omega
            have h3' : ¬ 8192 < len := by omega
            have h4' : ¬ 8 < (n : Int) := by omega
            go_enter Tryd.func22, Tryd.ntmps22
            go_wp2_with fail
            go_loop [3] (fun i => ∃ k : Nat, k ≤ n ∧ i = .int .i64 (k : Int) ∧ ∀ j (hj : j < ps.length), j < k → ps[j].at_ ≠ 0) (fun i => n - (intOf i).toNat)
            case atStart => exact ⟨0, Nat.zero_le _, rfl, fun j _ h => absurd h (Nat.not_lt_zero j)⟩
            case round =>
              obtain ⟨k, hk, rfl, hz⟩ := hrel
              have HZ := Lib.hid hz
              clear hz
              by_cases hlt : k < n
              · have hkp : k < ps.length := by rw [← HN.out]; exact hlt
                obtain ⟨b, off, rfl, hc⟩ := ref_at HV.out HPK.out hkp
                have ck := hc 0 _ (by decide) rfl
                rw [Nat.add_zero] at ck
                obtain ⟨x, hx⟩ : ∃ x, x = ps[k].at_ := ⟨_, rfl⟩
                rw [← hx] at ck
                have HX := Lib.hid hx
                have hklt : (k : Int) < (n : Int) := by omega
                have hk0 : (0 : Int) ≤ (k : Int) := by omega
                clear hx hc
                by_cases hx0 : x = 0
                · have hf : R = false := by
                    cases R with
                    | false => rfl
                    | true => exact absurd ((HM.out.1 rfl).2.2.2.2 ps[k] (List.getElem_mem hkp)) (by rw [← HX.out, hx0]; simp)
                  subst hf hx0
                  clear HM
                  go_wp2_with fail
                  go_ret
                  exact ⟨rfl, W1.out⟩
                · have hxe : ((x : Int) == 0) = false := by simpa using hx0
                  have hxe2 : ¬ (x : Int) = 0 := by omega
                  go_wp2_with fail
                  refine ⟨⟨k + 1, by omega, by go_num, fun j hj hjk => ?_⟩, by simp [intOf]; omega⟩
                  by_cases e : j = k
                  · subst e; rw [← HX.out]; exact hx0
                  · exact HZ.out j hj (by omega)
              · obtain rfl : k = n := by omega
                have ht : R = true := HM.out.2 ⟨HA.out, h2, h3, by rw [← HN.out]; exact h4, fun p hp => by
                  obtain ⟨j, hj, rfl⟩ := List.getElem_of_mem hp
                  exact HZ.out j hj (by rw [HN.out]; exact hj)⟩
                subst ht
                clear HM
                have hkk : ¬ (k : Int) < (k : Int) := by omega
                go_wp2_with fail
                go_ret
                exact ⟨rfl, W1.out⟩
          · have h2' : ¬ len < 0 := by omega
            have h3' : ¬ 8192 < len := by omega
            have h4' : 8 < (n : Int) := by omega
            have hf : R = false := by
              cases R with
              | false => rfl
              | true => exact absurd (HM.out.1 rfl).2.2.2.1 (by rw [← HN.out]; exact h4)
            subst hf
            clear HM
            go_enter Tryd.func22, Tryd.ntmps22
            go_wp2_with fail
            go_ret
            exact ⟨rfl, W1.out⟩
        · have h2' : ¬ len < 0 := by omega
          have h3' : 8192 < len := by omega
          have hf : R = false := by
            cases R with
            | false => rfl
            | true => exact absurd (HM.out.1 rfl).2.2.1 h3
          subst hf
          clear HM
          go_enter Tryd.func22, Tryd.ntmps22
          go_wp2_with fail
          go_ret
          exact ⟨rfl, W1.out⟩
      · have h2' : len < 0 := by omega
        have hf : R = false := by
          cases R with
          | false => rfl
          | true => exact absurd (HM.out.1 rfl).2.1 h2
        subst hf
        clear HM
        go_enter Tryd.func22, Tryd.ntmps22
        go_wp2_with fail
        go_ret
        exact ⟨rfl, W1.out⟩
    · subst h1
      by_cases h2 : 0 ≤ len
      · by_cases h3 : len ≤ 8192
        · by_cases h4 : n ≤ 8
          · have h2' : ¬ len < 0 := by omega
            have h3' : ¬ 8192 < len := by omega
            have h4' : ¬ 8 < (n : Int) := by omega
            go_enter Tryd.func22, Tryd.ntmps22
            go_wp2_with fail
            go_loop [3] (fun i => ∃ k : Nat, k ≤ n ∧ i = .int .i64 (k : Int) ∧ ∀ j (hj : j < ps.length), j < k → ps[j].at_ ≠ 0) (fun i => n - (intOf i).toNat)
            case atStart => exact ⟨0, Nat.zero_le _, rfl, fun j _ h => absurd h (Nat.not_lt_zero j)⟩
            case round =>
              obtain ⟨k, hk, rfl, hz⟩ := hrel
              have HZ := Lib.hid hz
              clear hz
              by_cases hlt : k < n
              · have hkp : k < ps.length := by rw [← HN.out]; exact hlt
                obtain ⟨b, off, rfl, hc⟩ := ref_at HV.out HPK.out hkp
                have ck := hc 0 _ (by decide) rfl
                rw [Nat.add_zero] at ck
                obtain ⟨x, hx⟩ : ∃ x, x = ps[k].at_ := ⟨_, rfl⟩
                rw [← hx] at ck
                have HX := Lib.hid hx
                have hklt : (k : Int) < (n : Int) := by omega
                have hk0 : (0 : Int) ≤ (k : Int) := by omega
                clear hx hc
                by_cases hx0 : x = 0
                · have hf : R = false := by
                    cases R with
                    | false => rfl
                    | true => exact absurd ((HM.out.1 rfl).2.2.2.2 ps[k] (List.getElem_mem hkp)) (by rw [← HX.out, hx0]; simp)
                  subst hf hx0
                  clear HM
                  go_wp2_with fail
                  go_ret
                  exact ⟨rfl, W1.out⟩
                · have hxe : ((x : Int) == 0) = false := by simpa using hx0
                  have hxe2 : ¬ (x : Int) = 0 := by omega
                  go_wp2_with fail
                  refine ⟨⟨k + 1, by omega, by go_num, fun j hj hjk => ?_⟩, by simp [intOf]; omega⟩
                  by_cases e : j = k
                  · subst e; rw [← HX.out]; exact hx0
                  · exact HZ.out j hj (by omega)
              · obtain rfl : k = n := by omega
                have ht : R = true := HM.out.2 ⟨HA.out, h2, h3, by rw [← HN.out]; exact h4, fun p hp => by
                  obtain ⟨j, hj, rfl⟩ := List.getElem_of_mem hp
                  exact HZ.out j hj (by rw [HN.out]; exact hj)⟩
                subst ht
                clear HM
                have hkk : ¬ (k : Int) < (k : Int) := by omega
                go_wp2_with fail
                go_ret
                exact ⟨rfl, W1.out⟩
          · have h2' : ¬ len < 0 := by omega
            have h3' : ¬ 8192 < len := by omega
            have h4' : 8 < (n : Int) := by omega
            have hf : R = false := by
              cases R with
              | false => rfl
              | true => exact absurd (HM.out.1 rfl).2.2.2.1 (by rw [← HN.out]; exact h4)
            subst hf
            clear HM
            go_enter Tryd.func22, Tryd.ntmps22
            go_wp2_with fail
            go_ret
            exact ⟨rfl, W1.out⟩
        · have h2' : ¬ len < 0 := by omega
          have h3' : 8192 < len := by omega
          have hf : R = false := by
            cases R with
            | false => rfl
            | true => exact absurd (HM.out.1 rfl).2.2.1 h3
          subst hf
          clear HM
          go_enter Tryd.func22, Tryd.ntmps22
          go_wp2_with fail
          go_ret
          exact ⟨rfl, W1.out⟩
      · have h2' : len < 0 := by omega
        have hf : R = false := by
          cases R with
          | false => rfl
          | true => exact absurd (HM.out.1 rfl).2.1 h2
        subst hf
        clear HM
        go_enter Tryd.func22, Tryd.ntmps22
        go_wp2_with fail
        go_ret
        exact ⟨rfl, W1.out⟩
  · have e0 : (area != 0) = true := by simpa using (fun e => h1 (.inl e))
    have e1 : (area != 1) = true := by simpa using (fun e => h1 (.inr e))
    have hf : R = false := by
      cases R with
      | false => rfl
      | true => exact absurd (HM.out.1 rfl).1 h1
    subst hf
    clear HM
    go_enter Tryd.func22, Tryd.ntmps22
    go_wp2_with fail
    go_ret
    exact ⟨rfl, W1.out⟩
end Go.Proofs.YtenigdbnfepkeaaDoor
/- Pieces appended one after another to a slice of the call's own, in a region that draws its order (FactsW): some are made in the region (by the operation mk k, before the k-th append, in whatever order), the others stand in older memory. app k: the operation that appends the k-th piece. Own work. -/
namespace Go.Proofs.YtenigdbnfepkeaaDoor
open Go.ChangeShapes Go.WideShapes Go.ChangeAt Go.RowKit
/-- The first k + 1 pieces. -/
def upTo (pc : Nat → List Nat) : Nat → List Nat
  | 0 => pc 0
  | k + 1 => upTo pc k ++ pc (k + 1)
theorem told_ne {r : Told} {i : Nat} (h : ∃ u, r i = some u) : r i ≠ none := fun e => by obtain ⟨u, hu⟩ := h; rw [hu] at e; cases e
structure Chain (n : Nat) (app : Nat → Nat) (mk : Nat → Option Nat) (pc : Nat → List Nat) (w1 : World) (B : Nat) (ov : Value) (l : List Nat) (r : Told) (w : World) : Prop where
  grow : w1.grownBy w ov.ownBlock
  made : ∀ k m, k < n → mk k = some m → ∀ v, r m = some v → r (app k) = none → Rd w v (pc k) ∧ ∀ g, v.ownBlock = some g → w1.heap.size ≤ g
  out0 : r (app 0) = none → Own w B ov l
  out : ∀ k, k < n → ∀ v, r (app k) = some v → (k + 1 = n ∨ r (app (k + 1)) = none) → Grew w1 B ov w v (l ++ upTo pc k)
section
variable {n : Nat} {app : Nat → Nat} {mk : Nat → Option Nat} {pc : Nat → List Nat} {w1 w w' : World} {B : Nat} {ov v : Value} {l : List Nat} {r : Told}
theorem Chain.zero (h : w = w1) (o : Own w1 B ov l) : Chain n app mk pc w1 B ov l (fun _ => none) w := by
  subst h
  exact ⟨World.grownBy.refl _ _, nofun, fun _ => o, nofun⟩
/-- The k-th piece is made. -/
theorem Chain.make (k m : Nat) (hm : mk k = some m) (hd : ∀ j, j < n → app j ≠ m) (hu : ∀ j, j < n → mk j = some m → j = k) (hn : 0 < n) (h : Chain n app mk pc w1 B ov l r w) (o : Own w' w.heap.size v (pc k)) (kb : Below w.heap.size w w') : Chain n app mk pc w1 B ov l (r.set m v) w' := by
  have ea : ∀ j, j < n → (r.set m v) (app j) = r (app j) := fun j hj => Told.set_ne (hd j hj)
  refine ⟨only_trans h.grow (grown_of_below kb _), fun j i hj hi z hz hz2 => ?_, fun hz => (h.out0 (by rw [← ea 0 hn]; exact hz)).below kb, fun j hj z hz hz2 => ?_⟩
  · rw [ea j hj] at hz2
    by_cases e : i = m
    · subst e
      obtain rfl := hu j hj hi
      rw [Told.set_same] at hz
      obtain rfl := Option.some.inj hz
      exact ⟨o.rd, fun g hg => by have := (o.from g hg).1; have := h.grow.size; omega⟩
    · rw [Told.set_ne e] at hz
      obtain ⟨h1, h2⟩ := h.made j i hj hi z hz hz2
      exact ⟨h1.below kb, h2⟩
  · rw [ea j hj] at hz
    refine (h.out j hj z hz ?_).mid kb
    rcases hz2 with q | q
    · exact .inl q
    · rcases Nat.lt_or_ge (j + 1) n with q2 | q2
      · exact .inr (by rw [← ea (j + 1) q2]; exact q)
      · exact .inl (by omega)
/-- The first piece is appended. -/
theorem Chain.first (hd : ∀ j, j < n → mk j ≠ some (app 0)) (ha : ∀ j, j < n → 0 < j → app j ≠ app 0) (h : Chain n app mk pc w1 B ov l r w) (hl : ∀ j, j < n → 0 < j → r (app j) = none) (hold : ∀ g, ov.ownBlock = some g → g < w1.heap.size) (o : Own w' B v (l ++ pc 0)) (g : w.grownBy w' ov.ownBlock) (k : v.ownBlock = ov.ownBlock ∨ v.ownBlock = some w.heap.size) : Chain n app mk pc w1 B ov l (r.set (app 0) v) w' := by
  refine ⟨only_trans h.grow g, fun j i hj hi z hz hz2 => ?_, fun hz => ?_, fun j hj z hz _ => ?_⟩
  · rw [Told.set_ne (fun e => hd j hj (by rw [← e]; exact hi))] at hz
    rcases Nat.eq_zero_or_pos j with q | q
    · subst q; rw [Told.set_same] at hz2; cases hz2
    · obtain ⟨hr, hn2⟩ := h.made j i hj hi z hz (hl j hj q)
      refine ⟨hr.grown g ?_, hn2⟩
      cases hyb : z.ownBlock with
      | none => exact .inl rfl
      | some y => exact .inr fun e => by have h1 := hold y e.symm; have h2 := hn2 y hyb; omega
  · rw [Told.set_same] at hz; cases hz
  · rcases Nat.eq_zero_or_pos j with q | q
    · subst q
      rw [Told.set_same] at hz
      obtain rfl := Option.some.inj hz
      exact ⟨o, only_trans h.grow g, fun y e => by
        rcases k with z | z
        · exact .inl (z ▸ e)
        · right; rw [z] at e; have := Option.some.inj e; have := h.grow.size; omega⟩
    · rw [Told.set_ne (ha j hj q), hl j hj q] at hz; cases hz
/-- The (k + 1)-th piece is appended; no later one is made in the region. -/
theorem Chain.then_ (k : Nat) (hk : k + 1 < n) (ha : ∀ j, j < n → j ≠ k + 1 → app j ≠ app (k + 1)) (hm : ∀ j, j < n → k + 1 < j → mk j = none) (h : Chain n app mk pc w1 B ov l r w) (hp : ∀ j, j ≤ k → r (app j) ≠ none) (hl : ∀ j, j < n → k < j → r (app j) = none)
    {v0 : Value} (h0 : r (app k) = some v0) (o : Own w' B v (l ++ upTo pc k ++ pc (k + 1))) (g : w.grownBy w' v0.ownBlock) (kk : v.ownBlock = v0.ownBlock ∨ v.ownBlock = some w.heap.size) : Chain n app mk pc w1 B ov l (r.set (app (k + 1)) v) w' := by
  have hn := (h.out k (by omega) v0 h0 (.inr (hl (k + 1) hk (by omega)))).next o g kk
  refine ⟨hn.grow, fun j i hj hi z hz hz2 => ?_, fun hz => ?_, fun j hj z hz hz2 => ?_⟩
  · exfalso
    rcases Nat.lt_trichotomy j (k + 1) with q | q | q
    · rw [Told.set_ne (ha j hj (by omega))] at hz2
      exact hp j (by omega) hz2
    · subst q; rw [Told.set_same] at hz2; cases hz2
    · rw [hm j hj q] at hi; cases hi
  · rw [Told.set_ne (ha 0 (by omega) (by omega))] at hz
    exact absurd hz (hp 0 (Nat.zero_le _))
  · rcases Nat.lt_trichotomy j (k + 1) with q | q | q
    · exfalso
      rcases hz2 with e | e
      · omega
      · rcases Nat.lt_or_ge (j + 1) (k + 1) with q2 | q2
        · rw [Told.set_ne (ha (j + 1) (by omega) (by omega))] at e
          exact hp (j + 1) (by omega) e
        · obtain rfl : j = k := by omega
          rw [Told.set_same] at e; cases e
    · subst q
      rw [Told.set_same] at hz
      obtain rfl := Option.some.inj hz
      show Grew w1 B ov w' v (l ++ (upTo pc k ++ pc (k + 1)))
      rw [← List.append_assoc]; exact hn
    · rw [Told.set_ne (ha j hj (by omega)), hl j hj (by omega)] at hz; cases hz
end
end Go.Proofs.YtenigdbnfepkeaaDoor
/- What the document's answer lays of a root: contract. Written by gen_rtputr.py. Own work. -/
namespace Go.Proofs.YtenigdbnfepkeaaDoor
open Go.ChangeShapes Go.WideShapes Go.ChangeAt Go.RowKit
open RT
theorem infoRt : (Tryd.prog.info? 27).map (·.size) = some 68 := by kernel_rfl
theorem infoKeyR : (Tryd.prog.info? 28).map (·.size) = some 32 := by kernel_rfl
theorem zeroSumR (w : World) : (zeroValue 24).run Tryd.prog w = .ok (.agg (row8 (List.replicate 32 0)).toArray) w := by kernel_rfl
/-- A part of a block reads as bytes. -/
theorem rd_part {w : World} {b : Nat} {t : TypeId} {L : List Value} (h : Blk w b t L) {o n : Nat} {l : List Nat} (hl : Bytes n l) (he : (L.drop o).take n = row8 l) (hn : n ≤ 140737488355328) : Rd w (.slice (some ⟨b, o, none⟩) n n) l := by
  refine ⟨hl.2, by rw [hl.1]; exact hn, .inr ⟨_, n, by rw [hl.1], by rw [hl.1]; exact Nat.le_refl _, fun j hj => ?_⟩⟩
  rw [Addr.add_mid]
  refine h.cell (o + j) _ ?_
  have h1 := row8_val l j hj
  rw [← he, List.getElem?_take, if_pos (by rw [← hl.1]; exact hj), List.getElem?_drop] at h1
  exact h1
/-- The sum of the k-th ref reads as bytes. -/
theorem ref_sum {w : World} {b off cap : Nat} {ps : List Pg} (h : RdT 33 w (.slice (some ⟨b, off, none⟩) ps.length cap) ps.length (pcs ps)) (hp : ∀ p ∈ ps, Pok p) {k : Nat} (hk : k < ps.length) : Rd w (.slice (some ⟨b, off + k * 33 + 1, none⟩) 32 32) ps[k].sum := by
  have hs := (hp ps[k] (List.getElem_mem hk)).2
  obtain ⟨b', off', e, hc⟩ := ref_at h hp hk
  injection e with e
  injection e with e1 e2
  subst e1; subst e2
  refine ⟨hs.2, by rw [hs.1]; decide, .inr ⟨_, 32, by rw [hs.1], by rw [hs.1]; decide, fun j hj => ?_⟩⟩
  have h1 := row8_val ps[k].sum j hj
  have h2 := hc (j + 1) _ (by have := hs.1; omega) (by unfold pc; rw [List.getElem?_cons_succ]; exact h1)
  rw [show off + (k * 33 + (j + 1)) = off + k * 33 + 1 + j by omega] at h2
  rw [Addr.add_mid]; exact h2
set_option maxRecDepth 100000 in
set_option maxHeartbeats 1000000 in
theorem rrput_no (r : Rt) (hr : RT.Ok r) (key : List Nat) (v : Value) (w : World) (hv : RdT 33 w v r.pages.length (pcs r.pages)) (h : may r = false) : Calls Tryd.prog 12 #[.agg (rtc r v).toArray, .agg (row8 key).toArray] w fun e w' => e = .returned (.tuple #[.slice none 0 0, .int .i64 2]) ∧ Below w.heap.size w w' := by
  obtain ⟨L, hL⟩ : ∃ L, L = rtc r v := ⟨_, rfl⟩
  have L68 := Lib.hid (show L.length = 68 by rw [hL]; exact rtc_len hr v)
  have W1 := Lib.hid (((Below.refl w.heap.size w).alloc (Nat.le_refl _) (.cells L.toArray 27)).alloc (by simp) (.cells (row8 key).toArray 28))
  have X1 := Lib.hid ((Blk.new w 27 L _ rfl).alloc (.cells (row8 key).toArray 28))
  have HM := Lib.hid (fun W (hW : Below w.heap.size w W) => rrmay_any r hr v W (hv.below hW))
  rw [h, ← hL] at HM
  rw [← hL]
  clear hL hv h hr
  go_enter Tryd.func12, Tryd.ntmps12
  go_wp2_with (first
    | (refine wpList_load_mid rfl 27 (.tmp 2) rfl w.heap.size 0 rfl L _ X1.out.range Tryd.underlying27 rfl (by rw [L68.out]; exact infoRt) ?_)
    | (go_at_call 22; (with_reducible refine (HM.out _ W1.out).mono ?_); rintro e w2 ⟨rfl, b2⟩; have W2 := Lib.hid (W1.out.on b2); clear b2))
  go_ret2
  exact ⟨rfl, W2.out⟩
set_option maxRecDepth 100000 in
set_option maxHeartbeats 4000000 in
theorem rrput_ok (r : Rt) (hr : RT.Ok r) (key : List Nat) (hkey : Bytes 32 key) (v : Value) (w : World) (hv : RdT 33 w v r.pages.length (pcs r.pages)) (ht : Tab w) (h : may r = true) : Calls Tryd.prog 12 #[.agg (rtc r v).toArray, .agg (row8 key).toArray] w fun e w' => ∃ u, e = .returned (.tuple #[u, .int .i64 0]) ∧ Own w' w.heap.size u (lay r key) ∧ Below w.heap.size w w' := by
  obtain ⟨pa, pcap, rfl, hpc⟩ := hv.shape
  obtain ⟨m1, m2, m3, m4, _⟩ := may_iff.1 h
  obtain ⟨L, hL⟩ : ∃ L, L = rtc r (.slice pa r.pages.length pcap) := ⟨_, rfl⟩
  obtain ⟨KC, hKC⟩ : ∃ L, L = row8 key := ⟨_, rfl⟩
  have L68 := Lib.hid (show L.length = 68 by rw [hL]; exact rtc_len hr _)
  have K32 := Lib.hid (show KC.length = 32 by rw [hKC, row8_len, hkey.1])
  have HKC := Lib.hid hKC
  have W1 := Lib.hid (((Below.refl w.heap.size w).alloc (Nat.le_refl _) (.cells L.toArray 27)).alloc (by simp) (.cells KC.toArray 28))
  have X1 := Lib.hid ((Blk.new w 27 L _ rfl).alloc (.cells KC.toArray 28))
  have K1 := Lib.hid (Blk.new (w.alloc (.cells L.toArray 27)) 28 KC (w.heap.size + 1) (by simp))
  have HM := Lib.hid (fun W (hW : Below w.heap.size w W) => rrmay_any r hr (.slice pa r.pages.length pcap) W (hv.below hW))
  rw [h, ← hL] at HM
  have HC0 := Lib.hid (show L[0]? = some (.int .u64 (r.ver : Int)) by rw [hL]; rfl)
  have HCS := Lib.hid (show (L.drop 1).take 32 = row8 r.sup by rw [hL]; exact rtc_sup hr _)
  have HCA := Lib.hid (show L[33]? = some (.int .i64 r.area) by rw [hL]; exact rtc_area hr _)
  have HCK := Lib.hid (show (L.drop 34).take 32 = row8 r.keys by rw [hL]; exact rtc_keys hr _)
  have HCL := Lib.hid (show L[66]? = some (.int .i64 r.len) by rw [hL]; exact rtc_lenc hr _)
  have HCP := Lib.hid (show L[67]? = some (.slice pa r.pages.length pcap) by rw [hL]; exact rtc_pages hr _)
  rw [← hL, ← hKC]
  have HRW := Lib.hid (show raw r = [82, 79, 79, 84] ++ be r.ver 8 ++ r.sup ++ [r.area.toNat] ++ r.keys ++ be r.len.toNat 2 ++ [r.pages.length] ++ ones r.pages from rfl)
  have HRL := Lib.hid (raw_len hr)
  have HBD := Lib.hid (body_len hr m4)
  have HBE := Lib.hid (show body r = padTo (raw r) 480 from rfl)
  have HLY := Lib.hid (show lay r key = body r ++ SM.mac key (body r) from rfl)
  have HOL := Lib.hid (fun k (hk : k ≤ r.pages.length) => (show (ones (r.pages.take k)).length = k * 36 by rw [ones_len (fun p hp => hr.pages p (List.mem_of_mem_take hp)), List.length_take, Nat.min_eq_left hk]))
  have HV := Lib.hid hv
  have HPK := Lib.hid hr.pages
  have HT := Lib.hid ht
  have HKY := Lib.hid hkey
  obtain ⟨ver, hver⟩ : ∃ x, x = r.ver := ⟨_, rfl⟩
  obtain ⟨sup, hsup⟩ : ∃ x, x = r.sup := ⟨_, rfl⟩
  obtain ⟨keys, hkeys⟩ : ∃ x, x = r.keys := ⟨_, rfl⟩
  obtain ⟨ps, hps⟩ : ∃ x, x = r.pages := ⟨_, rfl⟩
  obtain ⟨an, han⟩ : ∃ x : Nat, r.area = (x : Int) := ⟨r.area.toNat, by omega⟩
  obtain ⟨ln, hln⟩ : ∃ x : Nat, r.len = (x : Int) := ⟨r.len.toNat, by omega⟩
  have hvb : ver < 18446744073709551616 := by rw [hver]; exact hr.ver
  have BS := Lib.hid (show Bytes 32 sup by rw [hsup]; exact hr.sup)
  have BK := Lib.hid (show Bytes 32 keys by rw [hkeys]; exact hr.keys)
  rw [han] at HCA HRW
  rw [hln] at HCL HRW
  rw [Int.toNat_natCast, Int.toNat_natCast] at HRW
  rw [← hver] at HC0 HRW
  rw [← hsup] at HCS HRW
  rw [← hkeys] at HCK HRW
  rw [← hps] at HCP HRW HRL HOL HV HPK
  have anb : an ≤ 1 := by omega
  have lnb : ln ≤ 8192 := by omega
  have hn8 : ps.length ≤ 8 := by rw [hps]; exact m4
  clear hL hKC m1 m2 m3 m4 hpc hver hsup hkeys hps han hln hv hr ht hkey h
  obtain ⟨n, hn⟩ : ∃ n, n = ps.length := ⟨_, rfl⟩
  have HN := Lib.hid hn
  rw [← hn] at HCP HRW HRL HOL hn8
  obtain ⟨RAW, hraw⟩ : ∃ x, x = raw r := ⟨_, rfl⟩
  obtain ⟨BODY, hbody⟩ : ∃ x, x = body r := ⟨_, rfl⟩
  obtain ⟨LAY, hlay⟩ : ∃ x, x = lay r key := ⟨_, rfl⟩
  obtain ⟨MAC, hmac⟩ : ∃ x, x = SM.mac key (body r) := ⟨_, rfl⟩
  rw [← hraw] at HRW HRL HBE
  rw [← hbody] at HBD HBE HLY
  rw [← hbody] at hmac
  rw [← hlay, ← hmac] at HLY
  rw [← hlay]
  have HMB := Lib.hid (show Bytes 32 MAC by rw [hmac]; exact sha_bytes _)
  have HMA := Lib.hid (show ∀ (u x : Value) W, Below w.heap.size w W → Rd W u key → Rd W x BODY → Calls Tryd.prog 24 #[u, x] W fun e w' => e = .returned (.agg (row8 MAC).toArray) ∧ Below W.heap.size W w' from fun u x W hW hu hx => by rw [hmac]; exact rmac_any key BODY (by rw [HKY.out.1]; decide) (by rw [HBD.out]; decide) u x W hu hx (HT.out.below hW))
  clear hn hraw hbody hlay hmac
  have HN8 := Lib.hid (fun W => (show Calls Tryd.prog 23 #[.int .u64 (ver : Int), .int .i64 8] W fun e w' => ∃ v, e = .returned v ∧ Own w' W.heap.size v (be ver 8) ∧ Below W.heap.size W w' from rput_any ver 8 hvb (by decide) W))
  have HN2 := Lib.hid (fun W => (show Calls Tryd.prog 23 #[.int .u64 (ln : Int), .int .i64 2] W fun e w' => ∃ v, e = .returned v ∧ Own w' W.heap.size v (be ln 2) ∧ Below W.heap.size W w' from rput_any ln 2 (by omega) (by decide) W))
  have kc := fun (w : World) (C : Array Value) (n c : Nat) => Lib.run_convert_bytes_const (P := Tryd.prog) w 30 5 C n c Tryd.underlying30 Tryd.underlying5
  have aan : IntKind.u8.wrap (an : Int) = (an : Int) := by rw [IntKind.wrap_u8]; omega
  have aln : IntKind.u64.wrap (ln : Int) = (ln : Int) := by rw [IntKind.wrap_u64]; omega
  have ann : IntKind.u8.wrap (n : Int) = (n : Int) := by rw [IntKind.wrap_u8]; omega
  have ban := Lib.hid (show ∀ k, gb [an] k < 256 from fun k => by cases k with | zero => show an < 256; omega | succ k => exact Nat.zero_lt_succ _)
  have bnn := Lib.hid (show ∀ k, gb [n] k < 256 from fun k => by cases k with | zero => show n < 256; omega | succ k => exact Nat.zero_lt_succ _)
  go_enter Tryd.func12, Tryd.ntmps12
  go_upto_region 4 with (first
    | (refine wpList_load_mid rfl 27 (.tmp 2) rfl w.heap.size 0 rfl L _ X1.out.range Tryd.underlying27 rfl (by rw [L68.out]; exact infoRt) ?_)
    | (go_at_call 22; (with_reducible refine (HM.out _ W1.out).mono ?_); rintro e w2 ⟨rfl, b2⟩; have W2 := Lib.hid (W1.out.on b2); have X2 := Lib.hid (X1.out.below b2 X1.out.lt); have K2 := Lib.hid (K1.out.below b2 K1.out.lt); have cv := fun ob => (X2.out.alloc ob).cell 0 _ HC0.out; clear b2)
    | (go_at_call 23; (with_reducible refine (HN8.out _).mono ?_); rintro e w3 ⟨v3, rfl, o3, b3⟩; have V3 := Lib.hid o3.rd; have H3 := Lib.hid ((rd_const w2 [82, 79, 79, 84] (small_bytes (by decide)) (by decide) 4 rfl w2.heap.size rfl (4, 5)).below b3); have b23 := ((Below.refl w2.heap.size w2).alloc (Nat.le_refl _) (.cells (row8 [82, 79, 79, 84]).toArray 5 (4, 5))).trans (b3.mono (by simp)); have W3 := Lib.hid (W2.out.on b23); have X3 := Lib.hid (X2.out.below b23 X2.out.lt); have K3 := Lib.hid (K2.out.below b23 K2.out.lt); clear o3 b3 b23 cv)
    | (refine wpList_app_full rfl (.tmp 13) (.tmp 16) rfl ⟨w2.heap.size, 0, none⟩ 4 v3 [82, 79, 79, 84] (be ver 8) rfl rfl rfl H3.out V3.out (by rw [be_len]; decide) (by rw [be_len]; decide) ?_; intro v4 w4 o4 b4; have W4 := Lib.hid (W3.out.on b4); have X4 := Lib.hid (X3.out.below b4 X3.out.lt); have K4 := Lib.hid (K3.out.below b4 K3.out.lt); have O4 := Lib.hid (o4.lower (b' := w.heap.size + 2) (by have := K3.out.lt; omega)); clear o4 b4))
  clear W1 X1 K1 W2 X2 K2 W3 X3 K3 V3 H3 HC0 HM HN8
  obtain ⟨oa4, oc4, hsh4, _⟩ := O4.out.rd.shape
  rw [show ([82, 79, 79, 84] ++ be ver 8 : List Nat).length = 12 by rw [List.length_append, be_len]; rfl] at hsh4
  subst hsh4
  obtain ⟨l4, hl4⟩ : ∃ l, l = [82, 79, 79, 84] ++ be ver 8 := ⟨_, rfl⟩
  have L4 := Lib.hid (show l4.length = 12 by rw [hl4, List.length_append, be_len]; rfl)
  rw [← hl4] at O4 HRW
  clear hl4
  obtain ⟨wa, hwa⟩ : ∃ x, x = w4.drew := ⟨_, rfl⟩
  have HW1a := Lib.hid hwa
  have OW1a := Lib.hid (show Own wa (w.heap.size + 2) (.slice oa4 12 oc4) (l4) by rw [hwa]; exact O4.out.drew)
  have XBa := Lib.hid (show Blk wa w.heap.size 27 L by rw [hwa]; exact X4.out.drew)
  have KBa := Lib.hid (show Blk wa (w.heap.size + 1) 28 KC by rw [hwa]; exact K4.out.drew)
  have WBa := Lib.hid (show Below w.heap.size w wa by rw [hwa]; exact W4.out.on (Below.refl _ _).drew)
  have HBBa := Lib.hid (show w.heap.size + 2 ≤ wa.heap.size by have := KBa.out.lt; omega)
  have HOLDa := Lib.hid (fun g (hg : (.slice oa4 12 oc4 : Value).ownBlock = some g) => (OW1a.out.from g hg).2)
  have HNXa := Lib.hid (show some w.heap.size ≠ (.slice oa4 12 oc4 : Value).ownBlock from fun e => by
    have h := (OW1a.out.from w.heap.size e.symm).1
    omega)
  have HNKa := Lib.hid (show some (w.heap.size + 1) ≠ (.slice oa4 12 oc4 : Value).ownBlock from fun e => by
    have h := (OW1a.out.from (w.heap.size + 1) e.symm).1
    omega)
  clear hwa
  refine wp_region_w (by kernel_rfl) [3, 7, 8, 11] (by kernel_rfl) (by kernel_rfl) (Chain 3 (fun k => [3, 8, 11].getD k 0) (fun k => [none, some 7, none].getD k none) (fun k => [sup, [an], keys].getD k []) wa (w.heap.size + 2) (.slice oa4 12 oc4) (l4)) [.pre (.slice oa4 12 oc4), .pre (.pointer (some ⟨w.heap.size, 1, none⟩)), .pre (.slice (some ⟨w.heap.size, 1, none⟩) 32 32), .of 3 (fun u v => v = u), .pre (.pointer (some ⟨w.heap.size, 33, none⟩)), .pre (.int .i64 (an : Int)), .pre (.int .u8 (an : Int)), .of 7 (fun u v => v = u), .of 8 (fun u v => v = u), .pre (.pointer (some ⟨w.heap.size, 34, none⟩)), .pre (.slice (some ⟨w.heap.size, 34, none⟩) 32 32), .of 11 (fun u v => v = u), .of 11 (fun u v => v = u)] (fun i hi hq => by
      simp only [List.mem_cons, List.mem_nil_iff, or_false] at hi
      rcases hi with rfl | rfl | rfl | rfl
      · exact absurd hq (by decide +kernel)
      · exact absurd hq (by decide +kernel)
      · exact absurd hq (by decide +kernel)
      · exact absurd hq (by decide +kernel)) (Chain.zero (show _ = wa from HW1a.out.symm) OW1a.out) ?_ ?_
  · refine ⟨?_, ?_, ?_, ?_, ?_, ?_, ?_, ?_, ?_, ?_, ?_, ?_, ?_, trivial⟩
    · intro a w5 r hF hI hns hri h1 h2 hd
      have e6 : a.eval (.tmp 6) = .slice oa4 12 oc4 := hF 6 (by decide +kernel)
      exact doesZ_read (v := .slice oa4 12 oc4) (by decide) rfl (ex_move rfl e6) hI rfl
    · intro a w5 r hF hI hns hri h1 h2 hd
      have e2 : a.eval (.tmp 2) = .pointer (some ⟨w.heap.size, 0, none⟩) := hF 2 (by decide +kernel)
      have f2 : a.tmps[2]?.getD undef = .pointer (some ⟨w.heap.size, 0, none⟩) := by rw [← Array.getD_eq_getD_getElem?]; exact e2
      exact doesZ_read (v := .pointer (some ⟨w.heap.size, 1, none⟩)) (by decide) rfl (by unfold execOp; simp only [e2]; go_simp) hI rfl
    · intro a w5 r hF hI hns hri h1 h2 hd
      have e19 : a.eval (.tmp 19) = .pointer (some ⟨w.heap.size, 1, none⟩) := hd 1 (by decide +kernel)
      have f19 : a.tmps[19]?.getD undef = .pointer (some ⟨w.heap.size, 1, none⟩) := by rw [← Array.getD_eq_getD_getElem?]; exact e19
      exact doesZ_read (v := .slice (some ⟨w.heap.size, 1, none⟩) 32 32) (by decide) rfl (by unfold execOp; simp only [e19]; go_simp) hI rfl
    · intro a w5 r hF hI hns hri h1 h2 hd
      have e18 : a.eval (.tmp 18) = .slice oa4 12 oc4 := hd 0 (by decide +kernel)
      have e20 : a.eval (.tmp 20) = .slice (some ⟨w.heap.size, 1, none⟩) 32 32 := hd 2 (by decide +kernel)
      have q8 := h1 8 (by decide) (by decide +kernel)
      have q11 := h1 11 (by decide) (by decide +kernel)
      exact doesZ_app8 (by decide) rfl (.tmp 18) (.tmp 20) rfl (w.heap.size + 2) (.slice oa4 12 oc4) (.slice (some ⟨w.heap.size, 1, none⟩) 32 32) (l4) (sup) e18 e20 (hI.out0 hri) (rd_part (XBa.out.grown hI.grow HNXa.out) BS.out HCS.out (by decide)) (by rw [L4.out, BS.out.1]; decide) (Nat.le_trans HBBa.out hI.grow.size) (fun v' w' o' g' k' => ⟨hI.first (by decide) (by decide) (fun j hj hk => by rcases (show j = 1 ∨ j = 2 by omega) with rfl | rfl <;> first | exact q8 | exact q11) HOLDa.out o' g' k', _, Told.set_same _ _ _, rfl⟩)
    · intro a w5 r hF hI hns hri h1 h2 hd
      have e2 : a.eval (.tmp 2) = .pointer (some ⟨w.heap.size, 0, none⟩) := hF 2 (by decide +kernel)
      have f2 : a.tmps[2]?.getD undef = .pointer (some ⟨w.heap.size, 0, none⟩) := by rw [← Array.getD_eq_getD_getElem?]; exact e2
      exact doesZ_read (v := .pointer (some ⟨w.heap.size, 33, none⟩)) (by decide) rfl (by unfold execOp; simp only [e2]; go_simp) hI rfl
    · intro a w5 r hF hI hns hri h1 h2 hd
      have e22 : a.eval (.tmp 22) = .pointer (some ⟨w.heap.size, 33, none⟩) := hd 4 (by decide +kernel)
      have f22 : a.tmps[22]?.getD undef = .pointer (some ⟨w.heap.size, 33, none⟩) := by rw [← Array.getD_eq_getD_getElem?]; exact e22
      have cx := (XBa.out.grown hI.grow HNXa.out).cell 33 _ HCA.out
      exact doesZ_read (v := .int .i64 (an : Int)) (by decide) rfl (by unfold execOp; simp only [e22]; go_simp) hI rfl
    · intro a w5 r hF hI hns hri h1 h2 hd
      have e23 : a.eval (.tmp 23) = .int .i64 (an : Int) := hd 5 (by decide +kernel)
      exact doesZ_read (v := .int .u8 (an : Int)) (by decide) rfl (ex_convert rfl e23 (by go_simp)) hI rfl
    · intro a w5 r hF hI hns hri h1 h2 hd
      have e24 : a.eval (.tmp 24) = .int .u8 (an : Int) := hd 6 (by decide +kernel)
      refine doesZ_byte (by decide) rfl (.tmp 24) rfl an e24 ⟨hI.make 1 7 rfl (by decide) (by decide) (by decide) (own_new w5 [an] ban.out (by simp) rfl (Nat.le_refl _)) ((Below.refl _ _).alloc (Nat.le_refl _) _), _, Told.set_same _ _ _, rfl⟩
    · intro a w5 r hF hI hns hri h1 h2 hd
      obtain ⟨u21, hu21, e21⟩ : ∃ u, r 3 = some u ∧ a.eval (.tmp 21) = u := hd 3 (by decide +kernel)
      obtain ⟨u25, hu25, e25⟩ : ∃ u, r 7 = some u ∧ a.eval (.tmp 25) = u := hd 7 (by decide +kernel)
      have q11 := h1 11 (by decide) (by decide +kernel)
      have d3 := h2 3 (by decide) (by decide +kernel)
      exact doesZ_app8 (by decide) rfl (.tmp 21) (.tmp 25) rfl (w.heap.size + 2) u21 (u25) (l4 ++ upTo (fun k => [sup, [an], keys].getD k []) 0) ([an]) e21 e25 (hI.out 0 (by decide) u21 hu21 (.inr hri)).own ((hI.made 1 7 (by decide) rfl u25 hu25 hri).1) (by simp [upTo, L4.out, BS.out.1]) (Nat.le_trans HBBa.out hI.grow.size) (fun v' w' o' g' k' => ⟨hI.then_ 0 (by decide) (by decide) (by decide) (fun j hj => by rcases (show j = 0 by omega) with rfl <;> first | exact told_ne d3) (fun j hj hk => by rcases (show j = 1 ∨ j = 2 by omega) with rfl | rfl <;> first | exact hri | exact q11) hu21 o' g' k', _, Told.set_same _ _ _, rfl⟩)
    · intro a w5 r hF hI hns hri h1 h2 hd
      have e2 : a.eval (.tmp 2) = .pointer (some ⟨w.heap.size, 0, none⟩) := hF 2 (by decide +kernel)
      have f2 : a.tmps[2]?.getD undef = .pointer (some ⟨w.heap.size, 0, none⟩) := by rw [← Array.getD_eq_getD_getElem?]; exact e2
      exact doesZ_read (v := .pointer (some ⟨w.heap.size, 34, none⟩)) (by decide) rfl (by unfold execOp; simp only [e2]; go_simp) hI rfl
    · intro a w5 r hF hI hns hri h1 h2 hd
      have e27 : a.eval (.tmp 27) = .pointer (some ⟨w.heap.size, 34, none⟩) := hd 9 (by decide +kernel)
      have f27 : a.tmps[27]?.getD undef = .pointer (some ⟨w.heap.size, 34, none⟩) := by rw [← Array.getD_eq_getD_getElem?]; exact e27
      exact doesZ_read (v := .slice (some ⟨w.heap.size, 34, none⟩) 32 32) (by decide) rfl (by unfold execOp; simp only [e27]; go_simp) hI rfl
    · intro a w5 r hF hI hns hri h1 h2 hd
      obtain ⟨u26, hu26, e26⟩ : ∃ u, r 8 = some u ∧ a.eval (.tmp 26) = u := hd 8 (by decide +kernel)
      have e28 : a.eval (.tmp 28) = .slice (some ⟨w.heap.size, 34, none⟩) 32 32 := hd 10 (by decide +kernel)
      have d3 := h2 3 (by decide) (by decide +kernel); have d8 := h2 8 (by decide) (by decide +kernel)
      exact doesZ_app8 (by decide) rfl (.tmp 26) (.tmp 28) rfl (w.heap.size + 2) u26 (.slice (some ⟨w.heap.size, 34, none⟩) 32 32) (l4 ++ upTo (fun k => [sup, [an], keys].getD k []) 1) (keys) e26 e28 (hI.out 1 (by decide) u26 hu26 (.inr hri)).own (rd_part (XBa.out.grown hI.grow HNXa.out) BK.out HCK.out (by decide)) (by simp [upTo, L4.out, BS.out.1, BK.out.1]) (Nat.le_trans HBBa.out hI.grow.size) (fun v' w' o' g' k' => ⟨hI.then_ 1 (by decide) (by decide) (by decide) (fun j hj => by rcases (show j = 0 ∨ j = 1 by omega) with rfl | rfl <;> first | exact told_ne d3 | exact told_ne d8) (fun j hj hk => by rcases (show j = 2 by omega) with rfl <;> first | exact hri) hu26 o' g' k', _, Told.set_same _ _ _, rfl⟩)
    · intro a w5 r hF hI hns hri h1 h2 hd
      obtain ⟨u29, hu29, e29⟩ : ∃ u, r 11 = some u ∧ a.eval (.tmp 29) = u := hd 11 (by decide +kernel)
      exact doesZ_read (by decide) rfl (ex_assign rfl e29) hI ⟨u29, hu29, rfl⟩
  · intro vs rr w5 hI hS hvs
    obtain ⟨u, hu⟩ := hS 11 (by decide)
    obtain ⟨uv, huv, e6⟩ : ∃ u, rr 11 = some u ∧ vs 12 = u := hvs 12 (by decide)
    obtain rfl := Option.some.inj (hu.symm.trans huv)
    have G := hI.out 2 (by decide) u hu (.inl rfl)
    have O5 := Lib.hid G.own
    have X5 := Lib.hid (XBa.out.grown G.grow HNXa.out)
    have K5 := Lib.hid (KBa.out.grown G.grow HNKa.out)
    have W5 := Lib.hid (WBa.out.grown G.grow WBa.out.size (fun g hg => by have := (OW1a.out.from g hg).1; omega))
    clear hI hS hvs hu huv G XBa KBa WBa HOLDa HNXa HNKa HBBa OW1a HW1a
    obtain ⟨oa5, oc5, hsh5, _⟩ := O5.out.rd.shape
    obtain ⟨l5, hl5⟩ : ∃ l, l = l4 ++ upTo (fun k => [sup, [an], keys].getD k []) 2 := ⟨_, rfl⟩
    have hle5 : l5 = l4 ++ sup ++ [an] ++ keys := by rw [hl5]; simp [upTo]
    have L5 := Lib.hid (show l5.length = 77 by rw [hle5]; simp only [List.length_append, L4.out, BS.out.1, BK.out.1]; rfl)
    rw [← hl5] at O5 hsh5
    rw [← hle5] at HRW
    rw [L5.out] at hsh5
    subst hsh5
    simp only [putOps, Act.put, List.setIfInBounds_toArray, List.set_cons_zero, List.set_cons_succ, e6]
    clear e6 hl5 hle5
    go_upto_region 5 with fail
    obtain ⟨wb, hwb⟩ : ∃ x, x = w5.drew := ⟨_, rfl⟩
    have HW1b := Lib.hid hwb
    have OW1b := Lib.hid (show Own wb (w.heap.size + 2) (.slice oa5 77 oc5) (l5) by rw [hwb]; exact O5.out.drew)
    have XBb := Lib.hid (show Blk wb w.heap.size 27 L by rw [hwb]; exact X5.out.drew)
    have KBb := Lib.hid (show Blk wb (w.heap.size + 1) 28 KC by rw [hwb]; exact K5.out.drew)
    have WBb := Lib.hid (show Below w.heap.size w wb by rw [hwb]; exact W5.out.on (Below.refl _ _).drew)
    have HBBb := Lib.hid (show w.heap.size + 2 ≤ wb.heap.size by have := KBb.out.lt; omega)
    have HOLDb := Lib.hid (fun g (hg : (.slice oa5 77 oc5 : Value).ownBlock = some g) => (OW1b.out.from g hg).2)
    have HNXb := Lib.hid (show some w.heap.size ≠ (.slice oa5 77 oc5 : Value).ownBlock from fun e => by
      have h := (OW1b.out.from w.heap.size e.symm).1
      omega)
    have HNKb := Lib.hid (show some (w.heap.size + 1) ≠ (.slice oa5 77 oc5 : Value).ownBlock from fun e => by
      have h := (OW1b.out.from (w.heap.size + 1) e.symm).1
      omega)
    clear hwb
    refine wp_region_w (by kernel_rfl) [4, 5, 10, 11] (by kernel_rfl) (by kernel_rfl) (Chain 2 (fun k => [5, 11].getD k 0) (fun k => [some 4, some 10].getD k none) (fun k => [be ln 2, [n]].getD k []) wb (w.heap.size + 2) (.slice oa5 77 oc5) (l5)) [.pre (.slice oa5 77 oc5), .pre (.pointer (some ⟨w.heap.size, 66, none⟩)), .pre (.int .i64 (ln : Int)), .pre (.int .u64 (ln : Int)), .of 4 (fun u v => v = u), .of 5 (fun u v => v = u), .pre (.pointer (some ⟨w.heap.size, 67, none⟩)), .pre (.slice pa n pcap), .pre (.int .i64 (n : Int)), .pre (.int .u8 (n : Int)), .of 10 (fun u v => v = u), .of 11 (fun u v => v = u), .of 11 (fun u v => v = u)] (fun i hi hq => by
        simp only [List.mem_cons, List.mem_nil_iff, or_false] at hi
        rcases hi with rfl | rfl | rfl | rfl
        · exact absurd hq (by decide +kernel)
        · exact absurd hq (by decide +kernel)
        · exact absurd hq (by decide +kernel)
        · exact absurd hq (by decide +kernel)) (Chain.zero (show _ = wb from HW1b.out.symm) OW1b.out) ?_ ?_
    · refine ⟨?_, ?_, ?_, ?_, ?_, ?_, ?_, ?_, ?_, ?_, ?_, ?_, ?_, trivial⟩
      · intro a w5 r hF hI hns hri h1 h2 hd
        have e6 : a.eval (.tmp 6) = .slice oa5 77 oc5 := hF 6 (by decide +kernel)
        exact doesZ_read (v := .slice oa5 77 oc5) (by decide) rfl (ex_move rfl e6) hI rfl
      · intro a w5 r hF hI hns hri h1 h2 hd
        have e2 : a.eval (.tmp 2) = .pointer (some ⟨w.heap.size, 0, none⟩) := hF 2 (by decide +kernel)
        have f2 : a.tmps[2]?.getD undef = .pointer (some ⟨w.heap.size, 0, none⟩) := by rw [← Array.getD_eq_getD_getElem?]; exact e2
        exact doesZ_read (v := .pointer (some ⟨w.heap.size, 66, none⟩)) (by decide) rfl (by unfold execOp; simp only [e2]; go_simp) hI rfl
      · intro a w5 r hF hI hns hri h1 h2 hd
        have e31 : a.eval (.tmp 31) = .pointer (some ⟨w.heap.size, 66, none⟩) := hd 1 (by decide +kernel)
        have f31 : a.tmps[31]?.getD undef = .pointer (some ⟨w.heap.size, 66, none⟩) := by rw [← Array.getD_eq_getD_getElem?]; exact e31
        have cx := (XBb.out.grown hI.grow HNXb.out).cell 66 _ HCL.out
        exact doesZ_read (v := .int .i64 (ln : Int)) (by decide) rfl (by unfold execOp; simp only [e31]; go_simp) hI rfl
      · intro a w5 r hF hI hns hri h1 h2 hd
        have e32 : a.eval (.tmp 32) = .int .i64 (ln : Int) := hd 2 (by decide +kernel)
        exact doesZ_read (v := .int .u64 (ln : Int)) (by decide) rfl (ex_convert rfl e32 (by go_simp)) hI rfl
      · intro a w5 r hF hI hns hri h1 h2 hd
        have e33 : a.eval (.tmp 33) = .int .u64 (ln : Int) := hd 3 (by decide +kernel)
        exact doesZ_call (by decide) rfl (ex_call (vs := #[.int .u64 (ln : Int), .int .i64 2]) rfl (by simp only [List.map_toArray, List.map_cons, List.map_nil, e33]; rfl) (by go_simp)) ((HN2.out w5).mono fun e w6 hh => by obtain ⟨v, he, ho, hb⟩ := hh; exact ⟨v, he, hI.make 0 4 rfl (by decide) (by decide) (by decide) ho hb, v, Told.set_same _ _ _, rfl⟩)
      · intro a w5 r hF hI hns hri h1 h2 hd
        have e30 : a.eval (.tmp 30) = .slice oa5 77 oc5 := hd 0 (by decide +kernel)
        obtain ⟨u34, hu34, e34⟩ : ∃ u, r 4 = some u ∧ a.eval (.tmp 34) = u := hd 4 (by decide +kernel)
        have q11 := h1 11 (by decide) (by decide +kernel)
        exact doesZ_app8 (by decide) rfl (.tmp 30) (.tmp 34) rfl (w.heap.size + 2) (.slice oa5 77 oc5) (u34) (l5) (be ln 2) e30 e34 (hI.out0 hri) ((hI.made 0 4 (by decide) rfl u34 hu34 hri).1) (by rw [L5.out, be_len]; decide) (Nat.le_trans HBBb.out hI.grow.size) (fun v' w' o' g' k' => ⟨hI.first (by decide) (by decide) (fun j hj hk => by rcases (show j = 1 by omega) with rfl <;> first | exact q11) HOLDb.out o' g' k', _, Told.set_same _ _ _, rfl⟩)
      · intro a w5 r hF hI hns hri h1 h2 hd
        have e2 : a.eval (.tmp 2) = .pointer (some ⟨w.heap.size, 0, none⟩) := hF 2 (by decide +kernel)
        have f2 : a.tmps[2]?.getD undef = .pointer (some ⟨w.heap.size, 0, none⟩) := by rw [← Array.getD_eq_getD_getElem?]; exact e2
        exact doesZ_read (v := .pointer (some ⟨w.heap.size, 67, none⟩)) (by decide) rfl (by unfold execOp; simp only [e2]; go_simp) hI rfl
      · intro a w5 r hF hI hns hri h1 h2 hd
        have e36 : a.eval (.tmp 36) = .pointer (some ⟨w.heap.size, 67, none⟩) := hd 6 (by decide +kernel)
        have f36 : a.tmps[36]?.getD undef = .pointer (some ⟨w.heap.size, 67, none⟩) := by rw [← Array.getD_eq_getD_getElem?]; exact e36
        have cx := (XBb.out.grown hI.grow HNXb.out).cell 67 _ HCP.out
        exact doesZ_read (v := .slice pa n pcap) (by decide) rfl (by unfold execOp; simp only [e36]; go_simp) hI rfl
      · intro a w5 r hF hI hns hri h1 h2 hd
        have e37 : a.eval (.tmp 37) = .slice pa n pcap := hd 7 (by decide +kernel)
        have f37 : a.tmps[37]?.getD undef = .slice pa n pcap := by rw [← Array.getD_eq_getD_getElem?]; exact e37
        exact doesZ_read (v := .int .i64 (n : Int)) (by decide) rfl (by unfold execOp; go_simp) hI rfl
      · intro a w5 r hF hI hns hri h1 h2 hd
        have e38 : a.eval (.tmp 38) = .int .i64 (n : Int) := hd 8 (by decide +kernel)
        exact doesZ_read (v := .int .u8 (n : Int)) (by decide) rfl (ex_convert rfl e38 (by go_simp)) hI rfl
      · intro a w5 r hF hI hns hri h1 h2 hd
        have e39 : a.eval (.tmp 39) = .int .u8 (n : Int) := hd 9 (by decide +kernel)
        refine doesZ_byte (by decide) rfl (.tmp 39) rfl n e39 ⟨hI.make 1 10 rfl (by decide) (by decide) (by decide) (own_new w5 [n] bnn.out (by simp) rfl (Nat.le_refl _)) ((Below.refl _ _).alloc (Nat.le_refl _) _), _, Told.set_same _ _ _, rfl⟩
      · intro a w5 r hF hI hns hri h1 h2 hd
        obtain ⟨u35, hu35, e35⟩ : ∃ u, r 5 = some u ∧ a.eval (.tmp 35) = u := hd 5 (by decide +kernel)
        obtain ⟨u40, hu40, e40⟩ : ∃ u, r 10 = some u ∧ a.eval (.tmp 40) = u := hd 10 (by decide +kernel)
        have d5 := h2 5 (by decide) (by decide +kernel)
        exact doesZ_app8 (by decide) rfl (.tmp 35) (.tmp 40) rfl (w.heap.size + 2) u35 (u40) (l5 ++ upTo (fun k => [be ln 2, [n]].getD k []) 0) ([n]) e35 e40 (hI.out 0 (by decide) u35 hu35 (.inr hri)).own ((hI.made 1 10 (by decide) rfl u40 hu40 hri).1) (by simp [upTo, L5.out, be_len]) (Nat.le_trans HBBb.out hI.grow.size) (fun v' w' o' g' k' => ⟨hI.then_ 0 (by decide) (by decide) (by decide) (fun j hj => by rcases (show j = 0 by omega) with rfl <;> first | exact told_ne d5) (fun j hj hk => by rcases (show j = 1 by omega) with rfl <;> first | exact hri) hu35 o' g' k', _, Told.set_same _ _ _, rfl⟩)
      · intro a w5 r hF hI hns hri h1 h2 hd
        obtain ⟨u41, hu41, e41⟩ : ∃ u, r 11 = some u ∧ a.eval (.tmp 41) = u := hd 11 (by decide +kernel)
        exact doesZ_read (by decide) rfl (ex_assign rfl e41) hI ⟨u41, hu41, rfl⟩
    · intro vs rr w6 hI hS hvs
      obtain ⟨u, hu⟩ := hS 11 (by decide)
      obtain ⟨uv, huv, e6⟩ : ∃ u, rr 11 = some u ∧ vs 12 = u := hvs 12 (by decide)
      obtain rfl := Option.some.inj (hu.symm.trans huv)
      have G := hI.out 1 (by decide) u hu (.inl rfl)
      have O6 := Lib.hid G.own
      have X6 := Lib.hid (XBb.out.grown G.grow HNXb.out)
      have K6 := Lib.hid (KBb.out.grown G.grow HNKb.out)
      have W6 := Lib.hid (WBb.out.grown G.grow WBb.out.size (fun g hg => by have := (OW1b.out.from g hg).1; omega))
      clear hI hS hvs hu huv G XBb KBb WBb HOLDb HNXb HNKb HBBb OW1b HW1b
      obtain ⟨oa6, oc6, hsh6, _⟩ := O6.out.rd.shape
      obtain ⟨l6, hl6⟩ : ∃ l, l = l5 ++ upTo (fun k => [be ln 2, [n]].getD k []) 1 := ⟨_, rfl⟩
      have hle6 : l6 = l5 ++ be ln 2 ++ [n] := by rw [hl6]; simp [upTo]
      have L6 := Lib.hid (show l6.length = 80 by rw [hle6]; simp only [List.length_append, L5.out, be_len]; rfl)
      rw [← hl6] at O6 hsh6
      rw [← hle6] at HRW
      subst hsh6
      simp only [putOps, Act.put, List.setIfInBounds_toArray, List.set_cons_zero, List.set_cons_succ, e6]
      clear e6 hl6 hle6 HCS HCA HCK HCL HN2 ban bnn aan aln ann anb lnb hvb
      go_wp2_with fail
      have O6' := Lib.hid (show Own w6 (w.heap.size + 2) (.slice oa6 l6.length oc6) (l6 ++ ones (ps.take 0)) by show Own _ _ _ (l6 ++ []); rw [List.append_nil]; exact O6.out)
      go_loopw [6, 7] (fun x i wr => ∃ k : Nat, k ≤ n ∧ i = .int .i64 (k : Int) ∧ Own wr (w.heap.size + 2) x (l6 ++ ones (ps.take k)) ∧ Blk wr w.heap.size 27 L ∧ Blk wr (w.heap.size + 1) 28 KC ∧ Below w.heap.size w wr) (fun _ i _ => n - (intOf i).toNat)
      case atStart => exact ⟨0, Nat.zero_le _, rfl, O6'.out, X6.out, K6.out, W6.out⟩
      case round =>
        clear O6 O6' X6 K6 W6
        obtain ⟨k, hk, rfl, ho, hx, hkb, hw⟩ := hrel
        have O7 := Lib.hid ho
        have X7 := Lib.hid hx
        have K7 := Lib.hid hkb
        have W7 := Lib.hid hw
        have hlk : (l6 ++ ones (ps.take k)).length = 80 + k * 36 := by rw [List.length_append, L6.out, HOL.out k hk]
        have HLK := Lib.hid hlk
        have cp := hx.cell 67 _ HCP.out
        have HS0 := Lib.hid (fun (hkn : k = n) => (show l6 ++ ones (ps.take k) = RAW by rw [hkn, HN.out, List.take_length, HRW.out]))
        clear ho hx hkb hw
        obtain ⟨oa7, oc7, hsh7, _⟩ := O7.out.rd.shape
        rw [hlk] at hsh7
        subst hsh7
        by_cases hlt : k < n
        · have hkp : k < ps.length := by rw [← HN.out]; exact hlt
          have hnx : RdT 33 w (.slice pa ps.length pcap) ps.length (pcs ps) := HV.out
          obtain ⟨b, off, rfl, hcr⟩ := ref_at hnx HPK.out hkp
          obtain ⟨l7, hl7⟩ : ∃ l, l = l6 ++ ones (ps.take k) := ⟨_, rfl⟩
          have HL7 := Lib.hid hl7
          rw [← hl7] at O7 HLK
          have HSM := Lib.hid (ref_sum hnx HPK.out hkp)
          have HC4 := Lib.hid (fun W (hW : Below w.heap.size w W) => (show W.cell? ⟨b, off + k * 33, none⟩ = some (.int .u32 (ps[k].at_ : Int)) from by
            have h := cell_below (hcr 0 _ (by decide) rfl) hW
            rw [Nat.add_zero] at h; exact h))
          have HBS := Lib.hid (HPK.out ps[k] (List.getElem_mem hkp)).2
          have hat := (HPK.out ps[k] (List.getElem_mem hkp)).1
          have HST := Lib.hid (show l6 ++ ones (ps.take (k + 1)) = l7 ++ (be ps[k].at_ 4 ++ ps[k].sum) by rw [ones_take hkp, hl7, List.append_assoc]; rfl)
          obtain ⟨x, hx⟩ : ∃ x, x = ps[k].at_ := ⟨_, rfl⟩
          obtain ⟨sm, hsm⟩ : ∃ x, x = ps[k].sum := ⟨_, rfl⟩
          rw [← hx] at HC4 HST hat
          rw [← hsm] at HSM HBS HST
          have HN4 := Lib.hid (fun W => (show Calls Tryd.prog 23 #[.int .u64 (x : Int), .int .i64 4] W fun e w' => ∃ v, e = .returned v ∧ Own w' W.heap.size v (be x 4) ∧ Below W.heap.size W w' from rput_any x 4 (by omega) (by decide) W))
          have ax : IntKind.u64.wrap (x : Int) = (x : Int) := by rw [IntKind.wrap_u64]; omega
          have hklt : (k : Int) < (n : Int) := by omega
          have hk0 : (0 : Int) ≤ (k : Int) := by omega
          have hkt : ((k : Int)).toNat = k := Int.toNat_natCast k
          clear hcr hnx hl7 hx hsm hlk HS0
          go_upto_region 9 with fail
          obtain ⟨wc, hwc⟩ : ∃ x, x = wr.drew := ⟨_, rfl⟩
          have HW1c := Lib.hid hwc
          have OW1c := Lib.hid (show Own wc (w.heap.size + 2) (.slice oa7 (80 + k * 36) oc7) (l7) by rw [hwc]; exact O7.out.drew)
          have XBc := Lib.hid (show Blk wc w.heap.size 27 L by rw [hwc]; exact X7.out.drew)
          have KBc := Lib.hid (show Blk wc (w.heap.size + 1) 28 KC by rw [hwc]; exact K7.out.drew)
          have WBc := Lib.hid (show Below w.heap.size w wc by rw [hwc]; exact W7.out.on (Below.refl _ _).drew)
          have HBBc := Lib.hid (show w.heap.size + 2 ≤ wc.heap.size by have := KBc.out.lt; omega)
          have HOLDc := Lib.hid (fun g (hg : (.slice oa7 (80 + k * 36) oc7 : Value).ownBlock = some g) => (OW1c.out.from g hg).2)
          have HNXc := Lib.hid (show some w.heap.size ≠ (.slice oa7 (80 + k * 36) oc7 : Value).ownBlock from fun e => by
            have h := (OW1c.out.from w.heap.size e.symm).1
            omega)
          have HNKc := Lib.hid (show some (w.heap.size + 1) ≠ (.slice oa7 (80 + k * 36) oc7 : Value).ownBlock from fun e => by
            have h := (OW1c.out.from (w.heap.size + 1) e.symm).1
            omega)
          clear hwc
          refine wp_region_w (by kernel_rfl) [8, 9, 16] (by kernel_rfl) (by kernel_rfl) (Chain 2 (fun k => [9, 16].getD k 0) (fun k => [some 8, none].getD k none) (fun k => [be x 4, sm].getD k []) wc (w.heap.size + 2) (.slice oa7 (80 + k * 36) oc7) (l7)) [.pre (.slice oa7 (80 + k * 36) oc7), .pre (.pointer (some ⟨w.heap.size, 67, none⟩)), .pre (.slice (some ⟨b, off, none⟩) n pcap), .pre (.int .i64 (k : Int)), .pre (.pointer (some ⟨b, off + k * 33, none⟩)), .pre (.pointer (some ⟨b, off + k * 33, none⟩)), .pre (.int .u32 (x : Int)), .pre (.int .u64 (x : Int)), .of 8 (fun u v => v = u), .of 9 (fun u v => v = u), .pre (.pointer (some ⟨w.heap.size, 67, none⟩)), .pre (.slice (some ⟨b, off, none⟩) n pcap), .pre (.int .i64 (k : Int)), .pre (.pointer (some ⟨b, off + k * 33, none⟩)), .pre (.pointer (some ⟨b, off + k * 33 + 1, none⟩)), .pre (.slice (some ⟨b, off + k * 33 + 1, none⟩) 32 32), .of 16 (fun u v => v = u), .of 16 (fun u v => v = u)] (fun i hi hq => by
              simp only [List.mem_cons, List.mem_nil_iff, or_false] at hi
              rcases hi with rfl | rfl | rfl
              · exact absurd hq (by decide +kernel)
              · exact absurd hq (by decide +kernel)
              · exact absurd hq (by decide +kernel)) (Chain.zero (show _ = wc from HW1c.out.symm) OW1c.out) ?_ ?_
          · refine ⟨?_, ?_, ?_, ?_, ?_, ?_, ?_, ?_, ?_, ?_, ?_, ?_, ?_, ?_, ?_, ?_, ?_, ?_, trivial⟩
            · intro a w5 r hF hI hns hri h1 h2 hd
              have e6 : a.eval (.tmp 6) = .slice oa7 (80 + k * 36) oc7 := hF 6 (by decide +kernel)
              exact doesZ_read (v := .slice oa7 (80 + k * 36) oc7) (by decide) rfl (ex_move rfl e6) hI rfl
            · intro a w5 r hF hI hns hri h1 h2 hd
              have e2 : a.eval (.tmp 2) = .pointer (some ⟨w.heap.size, 0, none⟩) := hF 2 (by decide +kernel)
              have f2 : a.tmps[2]?.getD undef = .pointer (some ⟨w.heap.size, 0, none⟩) := by rw [← Array.getD_eq_getD_getElem?]; exact e2
              exact doesZ_read (v := .pointer (some ⟨w.heap.size, 67, none⟩)) (by decide) rfl (by unfold execOp; simp only [e2]; go_simp) hI rfl
            · intro a w5 r hF hI hns hri h1 h2 hd
              have e50 : a.eval (.tmp 50) = .pointer (some ⟨w.heap.size, 67, none⟩) := hd 1 (by decide +kernel)
              have f50 : a.tmps[50]?.getD undef = .pointer (some ⟨w.heap.size, 67, none⟩) := by rw [← Array.getD_eq_getD_getElem?]; exact e50
              have cx := (XBc.out.grown hI.grow HNXc.out).cell 67 _ HCP.out
              exact doesZ_read (v := .slice (some ⟨b, off, none⟩) n pcap) (by decide) rfl (by unfold execOp; simp only [e50]; go_simp) hI rfl
            · intro a w5 r hF hI hns hri h1 h2 hd
              have e7 : a.eval (.tmp 7) = .int .i64 (k : Int) := hF 7 (by decide +kernel)
              exact doesZ_read (v := .int .i64 (k : Int)) (by decide) rfl (ex_move rfl e7) hI rfl
            · intro a w5 r hF hI hns hri h1 h2 hd
              have e51 : a.eval (.tmp 51) = .slice (some ⟨b, off, none⟩) n pcap := hd 2 (by decide +kernel)
              have f51 : a.tmps[51]?.getD undef = .slice (some ⟨b, off, none⟩) n pcap := by rw [← Array.getD_eq_getD_getElem?]; exact e51
              have e52 : a.eval (.tmp 52) = .int .i64 (k : Int) := hd 3 (by decide +kernel)
              have f52 : a.tmps[52]?.getD undef = .int .i64 (k : Int) := by rw [← Array.getD_eq_getD_getElem?]; exact e52
              exact doesZ_read (v := .pointer (some ⟨b, off + k * 33, none⟩)) (by decide) rfl (by unfold execOp; simp only [e51, e52]; go_simp) hI rfl
            · intro a w5 r hF hI hns hri h1 h2 hd
              have e53 : a.eval (.tmp 53) = .pointer (some ⟨b, off + k * 33, none⟩) := hd 4 (by decide +kernel)
              have f53 : a.tmps[53]?.getD undef = .pointer (some ⟨b, off + k * 33, none⟩) := by rw [← Array.getD_eq_getD_getElem?]; exact e53
              exact doesZ_read (v := .pointer (some ⟨b, off + k * 33, none⟩)) (by decide) rfl (by unfold execOp; simp only [e53]; go_simp) hI rfl
            · intro a w5 r hF hI hns hri h1 h2 hd
              have e54 : a.eval (.tmp 54) = .pointer (some ⟨b, off + k * 33, none⟩) := hd 5 (by decide +kernel)
              have f54 : a.tmps[54]?.getD undef = .pointer (some ⟨b, off + k * 33, none⟩) := by rw [← Array.getD_eq_getD_getElem?]; exact e54
              have cx := HC4.out w5 (WBc.out.grown hI.grow WBc.out.size (fun g hg => by have := (OW1c.out.from g hg).1; omega))
              exact doesZ_read (v := .int .u32 (x : Int)) (by decide) rfl (by unfold execOp; simp only [e54]; go_simp) hI rfl
            · intro a w5 r hF hI hns hri h1 h2 hd
              have e55 : a.eval (.tmp 55) = .int .u32 (x : Int) := hd 6 (by decide +kernel)
              exact doesZ_read (v := .int .u64 (x : Int)) (by decide) rfl (ex_convert rfl e55 (by go_simp)) hI rfl
            · intro a w5 r hF hI hns hri h1 h2 hd
              have e56 : a.eval (.tmp 56) = .int .u64 (x : Int) := hd 7 (by decide +kernel)
              exact doesZ_call (by decide) rfl (ex_call (vs := #[.int .u64 (x : Int), .int .i64 4]) rfl (by simp only [List.map_toArray, List.map_cons, List.map_nil, e56]; rfl) (by go_simp)) ((HN4.out w5).mono fun e w6 hh => by obtain ⟨v, he, ho, hb⟩ := hh; exact ⟨v, he, hI.make 0 8 rfl (by decide) (by decide) (by decide) ho hb, v, Told.set_same _ _ _, rfl⟩)
            · intro a w5 r hF hI hns hri h1 h2 hd
              have e49 : a.eval (.tmp 49) = .slice oa7 (80 + k * 36) oc7 := hd 0 (by decide +kernel)
              obtain ⟨u57, hu57, e57⟩ : ∃ u, r 8 = some u ∧ a.eval (.tmp 57) = u := hd 8 (by decide +kernel)
              have q16 := h1 16 (by decide) (by decide +kernel)
              exact doesZ_app8 (by decide) rfl (.tmp 49) (.tmp 57) rfl (w.heap.size + 2) (.slice oa7 (80 + k * 36) oc7) (u57) (l7) (be x 4) e49 e57 (hI.out0 hri) ((hI.made 0 8 (by decide) rfl u57 hu57 hri).1) (by rw [HLK.out, be_len]; omega) (Nat.le_trans HBBc.out hI.grow.size) (fun v' w' o' g' k' => ⟨hI.first (by decide) (by decide) (fun j hj hk => by rcases (show j = 1 by omega) with rfl <;> first | exact q16) HOLDc.out o' g' k', _, Told.set_same _ _ _, rfl⟩)
            · intro a w5 r hF hI hns hri h1 h2 hd
              have e2 : a.eval (.tmp 2) = .pointer (some ⟨w.heap.size, 0, none⟩) := hF 2 (by decide +kernel)
              have f2 : a.tmps[2]?.getD undef = .pointer (some ⟨w.heap.size, 0, none⟩) := by rw [← Array.getD_eq_getD_getElem?]; exact e2
              exact doesZ_read (v := .pointer (some ⟨w.heap.size, 67, none⟩)) (by decide) rfl (by unfold execOp; simp only [e2]; go_simp) hI rfl
            · intro a w5 r hF hI hns hri h1 h2 hd
              have e59 : a.eval (.tmp 59) = .pointer (some ⟨w.heap.size, 67, none⟩) := hd 10 (by decide +kernel)
              have f59 : a.tmps[59]?.getD undef = .pointer (some ⟨w.heap.size, 67, none⟩) := by rw [← Array.getD_eq_getD_getElem?]; exact e59
              have cx := (XBc.out.grown hI.grow HNXc.out).cell 67 _ HCP.out
              exact doesZ_read (v := .slice (some ⟨b, off, none⟩) n pcap) (by decide) rfl (by unfold execOp; simp only [e59]; go_simp) hI rfl
            · intro a w5 r hF hI hns hri h1 h2 hd
              have e7 : a.eval (.tmp 7) = .int .i64 (k : Int) := hF 7 (by decide +kernel)
              exact doesZ_read (v := .int .i64 (k : Int)) (by decide) rfl (ex_move rfl e7) hI rfl
            · intro a w5 r hF hI hns hri h1 h2 hd
              have e60 : a.eval (.tmp 60) = .slice (some ⟨b, off, none⟩) n pcap := hd 11 (by decide +kernel)
              have f60 : a.tmps[60]?.getD undef = .slice (some ⟨b, off, none⟩) n pcap := by rw [← Array.getD_eq_getD_getElem?]; exact e60
              have e61 : a.eval (.tmp 61) = .int .i64 (k : Int) := hd 12 (by decide +kernel)
              have f61 : a.tmps[61]?.getD undef = .int .i64 (k : Int) := by rw [← Array.getD_eq_getD_getElem?]; exact e61
              exact doesZ_read (v := .pointer (some ⟨b, off + k * 33, none⟩)) (by decide) rfl (by unfold execOp; simp only [e60, e61]; go_simp) hI rfl
            · intro a w5 r hF hI hns hri h1 h2 hd
              have e62 : a.eval (.tmp 62) = .pointer (some ⟨b, off + k * 33, none⟩) := hd 13 (by decide +kernel)
              have f62 : a.tmps[62]?.getD undef = .pointer (some ⟨b, off + k * 33, none⟩) := by rw [← Array.getD_eq_getD_getElem?]; exact e62
              exact doesZ_read (v := .pointer (some ⟨b, off + k * 33 + 1, none⟩)) (by decide) rfl (by unfold execOp; simp only [e62]; go_simp) hI rfl
            · intro a w5 r hF hI hns hri h1 h2 hd
              have e63 : a.eval (.tmp 63) = .pointer (some ⟨b, off + k * 33 + 1, none⟩) := hd 14 (by decide +kernel)
              have f63 : a.tmps[63]?.getD undef = .pointer (some ⟨b, off + k * 33 + 1, none⟩) := by rw [← Array.getD_eq_getD_getElem?]; exact e63
              exact doesZ_read (v := .slice (some ⟨b, off + k * 33 + 1, none⟩) 32 32) (by decide) rfl (by unfold execOp; simp only [e63]; go_simp) hI rfl
            · intro a w5 r hF hI hns hri h1 h2 hd
              obtain ⟨u58, hu58, e58⟩ : ∃ u, r 9 = some u ∧ a.eval (.tmp 58) = u := hd 9 (by decide +kernel)
              have e64 : a.eval (.tmp 64) = .slice (some ⟨b, off + k * 33 + 1, none⟩) 32 32 := hd 15 (by decide +kernel)
              have d9 := h2 9 (by decide) (by decide +kernel)
              exact doesZ_app8 (by decide) rfl (.tmp 58) (.tmp 64) rfl (w.heap.size + 2) u58 (.slice (some ⟨b, off + k * 33 + 1, none⟩) 32 32) (l7 ++ upTo (fun k => [be x 4, sm].getD k []) 0) (sm) e58 e64 (hI.out 0 (by decide) u58 hu58 (.inr hri)).own (HSM.out.below (WBc.out.grown hI.grow WBc.out.size (fun g hg => by have := (OW1c.out.from g hg).1; omega))) (by simp only [upTo, List.length_append, HLK.out, HBS.out.1]; simp [be_len]; omega) (Nat.le_trans HBBc.out hI.grow.size) (fun v' w' o' g' k' => ⟨hI.then_ 0 (by decide) (by decide) (by decide) (fun j hj => by rcases (show j = 0 by omega) with rfl <;> first | exact told_ne d9) (fun j hj hk => by rcases (show j = 1 by omega) with rfl <;> first | exact hri) hu58 o' g' k', _, Told.set_same _ _ _, rfl⟩)
            · intro a w5 r hF hI hns hri h1 h2 hd
              obtain ⟨u65, hu65, e65⟩ : ∃ u, r 16 = some u ∧ a.eval (.tmp 65) = u := hd 16 (by decide +kernel)
              exact doesZ_read (by decide) rfl (ex_assign rfl e65) hI ⟨u65, hu65, rfl⟩
          · intro vs rr w8 hI hS hvs
            obtain ⟨u, hu⟩ := hS 16 (by decide)
            obtain ⟨uv, huv, e6⟩ : ∃ u, rr 16 = some u ∧ vs 17 = u := hvs 17 (by decide)
            obtain rfl := Option.some.inj (hu.symm.trans huv)
            have G := hI.out 1 (by decide) u hu (.inl rfl)
            have O8 := Lib.hid G.own
            have X8 := Lib.hid (XBc.out.grown G.grow HNXc.out)
            have K8 := Lib.hid (KBc.out.grown G.grow HNKc.out)
            have W8 := Lib.hid (WBc.out.grown G.grow WBc.out.size (fun g hg => by have := (OW1c.out.from g hg).1; omega))
            clear hI hS hvs hu huv G XBc KBc WBc HOLDc HNXc HNKc HBBc OW1c HW1c
            have hl8 : l7 ++ upTo (fun k => [be x 4, sm].getD k []) 1 = l6 ++ ones (ps.take (k + 1)) := by rw [HST.out]; simp [upTo]
            rw [hl8] at O8
            simp only [putOps, Act.put, List.setIfInBounds_toArray, List.set_cons_zero, List.set_cons_succ, e6]
            clear e6 hl8
            go_wp2_with fail
            exact ⟨⟨k + 1, by omega, by go_num, O8.out, X8.out, K8.out, W8.out⟩, by simp [intOf]; omega⟩
        · obtain rfl : k = n := by omega
          have hraw := HS0.out rfl
          rw [hraw] at O7
          clear HS0 hraw hlk HLK
          have hkk : ¬ (k : Int) < (k : Int) := by omega
          obtain ⟨N7, hN7⟩ : ∃ x, x = 80 + k * 36 := ⟨_, rfl⟩
          obtain ⟨z, hz⟩ : ∃ z : Nat, z = 480 - N7 := ⟨_, rfl⟩
          have HKK := Lib.hid (show RAW.length = N7 by rw [hN7]; exact HRL.out)
          have hN480 : N7 ≤ 480 := by omega
          have ha : IntKind.i64.wrap (480 - (N7 : Int)) = (z : Int) := by rw [IntKind.wrap_i64]; omega
          have HZ := Lib.hid hz
          have hzb : z ≤ 480 := by omega
          rw [← hN7] at O7 ⊢
          clear hN7 hz
          go_upto_region 11 with (refine wpList_app0 rfl (.tmp 66) (.tmp 69) rfl (w.heap.size + 2) (.slice oa7 N7 oc7) RAW z rfl rfl O7.out (by rw [HKK.out]; omega) (by have := K7.out.lt; omega) ?_; intro v8 w8 o8 g8 k8; have O8 := Lib.hid (show Own w8 (w.heap.size + 2) v8 BODY by rw [HBE.out]; unfold padTo; rw [HKK.out, ← HZ.out]; exact o8); have K8 := Lib.hid (K7.out.grown g8 (fun e => by have h := (O7.out.from (w.heap.size + 1) e.symm).1; omega)); have W8 := Lib.hid (W7.out.grown g8 W7.out.size (fun g hg => by have := (O7.out.from g hg).1; omega)); clear o8 g8 k8)
          obtain ⟨oa8, oc8, hsh8, _⟩ := O8.out.rd.shape
          rw [HBD.out] at hsh8
          subst hsh8
          have hzs := zeroSumR
          have RK8 := Lib.hid (show Rd w8 (.slice (some ⟨w.heap.size + 1, 0, none⟩) 32 32) key from rd_part K8.out HKY.out (by rw [HKC.out, List.drop_zero, List.take_of_length_le (by rw [row8_len, HKY.out.1]; exact Nat.le_refl _)]) (by decide))
          have M32 := Lib.hid (show (row8 MAC).length = 32 by rw [row8_len, HMB.out.1])
          obtain ⟨D0, hD0⟩ : ∃ D, D = row8 (List.replicate 32 0) := ⟨_, rfl⟩
          have hzD : ∀ w, (zeroValue 24).run Tryd.prog w = .ok (.agg D0.toArray) w := by rw [hD0]; exact zeroSumR
          have hd0 : D0.length = 32 := by rw [hD0, row8_len, List.length_replicate]
          clear hzs hD0
          go_wp2_with ((fail_if_success (with_reducible show bodyPost _ _ _ _ _ _)); first
            | (go_at_call 24; (with_reducible refine (HMA.out _ _ w8 W8.out RK8.out O8.out.rd).mono ?_); rintro e w9 ⟨rfl, b9⟩; have W9 := Lib.hid (W8.out.on b9); have SZ9 := Lib.hid (show w.heap.size + 2 ≤ w9.heap.size by have := K8.out.lt; have := b9.size; omega); have O9 := Lib.hid (O8.out.below b9); clear b9)
            | (refine wpList_store_blk rfl 24 (.tmp 8) (.tmp 73) rfl w9.heap.size 0 (row8 MAC) rfl rfl 24 D0 (Blk.new w9 24 D0 _ rfl) (by rw [M32.out, hd0]; exact Nat.le_refl _) (by rw [M32.out]; exact infoS) (row8_one _) ?_; intro w10 b10 g10; rw [splice_all _ _ (by rw [M32.out, hd0])] at b10; have bb := alloc_turn (Below.refl _ _) g10; have W10 := Lib.hid (W9.out.on bb); have SZ10 := Lib.hid (Nat.le_trans SZ9.out bb.size); have O10 := Lib.hid (O9.out.below bb); have R10 := Lib.hid (show Rd w10 (.slice (some ⟨w9.heap.size, 0, none⟩) 32 32) MAC from rd_part b10 HMB.out (by rw [List.drop_zero, List.take_of_length_le (by rw [M32.out]; exact Nat.le_refl _)]) (by decide)); clear b10 g10 bb)
            | (refine wpList_app rfl (.tmp 74) (.tmp 75) rfl (w.heap.size + 2) _ _ BODY MAC rfl rfl O10.out R10.out (by rw [HBD.out, HMB.out.1]; decide) SZ10.out ?_; intro v11 w11 o11 g11 k11; have O11 := Lib.hid (show Own w11 (w.heap.size + 2) v11 LAY by rw [HLY.out]; exact o11); have W11 := Lib.hid (W10.out.grown g11 W10.out.size (fun g hg => by have := (O10.out.from g hg).1; omega)); clear o11 g11 k11))
          go_ret2
          exact ⟨_, rfl, O11.out.lower (by omega), W11.out⟩
end Go.Proofs.YtenigdbnfepkeaaDoor
