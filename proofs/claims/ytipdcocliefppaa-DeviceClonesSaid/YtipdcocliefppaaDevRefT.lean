/- The document's device by value: Sync, Beat, Fail: contracts. Own work. -/
import Derived.Test.YtipdcocliefppaaDevRefS
import Derived.BigQuiet
import Derived.BigRegion
import Derived.Deep.DeepCutAuto
namespace Go.Proofs.Ytipdcocliefppaa
open Go.ChangeShapes Go.WideShapes Go.ChangeAt Go.RowKit
open DM
def lwCells (x : LW) : List Value := [.int .i64 (x.at_ : Int), .string (bstr x.bytes), .int .i64 (x.size : Int)]
def lwsCells (l : List LW) : List Value := (l.map lwCells).flatten
/-- The slice v holds these loose writes of the document's. -/
structure RL (w : World) (v : Value) (l : List LW) : Prop where
  rd : RdT 3 w v l.length (lwsCells l)
  lt : ∀ g, v.ownBlock = some g → g < w.heap.size
theorem RL.below {w w' : World} {v : Value} {l : List LW} (h : RL w v l) (hb : Below w.heap.size w w') : RL w' v l := ⟨h.rd.below hb, fun g hg => Nat.lt_of_lt_of_le (h.lt g hg) hb.size⟩
theorem RL.grown {w w' : World} {v : Value} {l : List LW} (h : RL w v l) {row : Option Nat} (hg : w.grownBy w' row) (hne : v.ownBlock = none ∨ v.ownBlock ≠ row) : RL w' v l := ⟨h.rd.grown hg hne, fun g e => Nat.lt_of_lt_of_le (h.lt g e) hg.size⟩
theorem lws_len (l : List LW) : (lwsCells l).length = l.length * 3 := by
  unfold lwsCells
  induction l with
  | nil => rfl
  | cons x r ih => rw [List.map_cons, List.flatten_cons, List.length_append, ih, List.length_cons, show (lwCells x).length = 3 from rfl]; omega
theorem RL.none_ (w : World) : RL w (.slice none 0 0) [] := ⟨RdT.none_ 3 w, fun g e => by cases e⟩
/-- What a call on the document's device hands back: the device that is r.1, and the number r.2. -/
def RDone (w0 : World) (lv : Value) (r : DS × Int) (e : Ending) (w' : World) : Prop :=
  ∃ la n c, e = .returned (.tuple #[.agg #[.int .i64 (r.1.most : Int), .string (bstr r.1.seen), .string (bstr r.1.safe), .slice la n c, .int .i64 (r.1.steps : Int), .bool r.1.down, .bool r.1.told, .int .i64 (r.1.after : Int), .bool r.1.done], .int .i64 r.2]) ∧ RL w' (.slice la n c) r.1.loose ∧ Below w0.heap.size w0 w' ∧ ∀ g, (.slice la n c : Value).ownBlock = some g → lv.ownBlock = some g ∨ w0.heap.size ≤ g
theorem rstep_any (d x : DS) (da xa : Option Addr) (dl dc xl xc : Nat) (w : World) (hs : d.steps < 9223372036854775807) (hx : x.steps = d.steps) (ha : x.after = d.after) (hb : d.after ≤ 9223372036854775807) (hd : RL w (.slice da dl dc) d.loose) (hl : RL w (.slice xa xl xc) x.loose) :
    Calls Try.prog 48 #[.agg (rdv d (.slice da dl dc)).toArray, .agg (rdv x (.slice xa xl xc)).toArray] w fun e w' => ∃ la n c, e = .returned (.tuple #[.agg #[.int .i64 ((DM.step d x).1.most : Int), .string (bstr (DM.step d x).1.seen), .string (bstr (DM.step d x).1.safe), .slice la n c, .int .i64 ((DM.step d x).1.steps : Int), .bool (DM.step d x).1.down, .bool (DM.step d x).1.told, .int .i64 ((DM.step d x).1.after : Int), .bool (DM.step d x).1.done], .int .i64 (DM.step d x).2]) ∧ RL w' (.slice la n c) (DM.step d x).1.loose ∧ Below w.heap.size w w' ∧ ((.slice la n c : Value) = .slice xa xl xc ∨ (.slice la n c : Value) = .slice da dl dc) := by
  unfold DM.step
  by_cases ht : d.told = false
  · rw [if_pos ht]
    exact (rstep_plain d x da xa dl dc xl xc w (by omega) ht).mono fun e w' ⟨h1, h2⟩ => ⟨xa, xl, xc, h1, hl.below h2, h2, .inl rfl⟩
  · have ht2 : d.told = true := by simpa using ht
    rw [if_neg ht]
    by_cases hf : 0 < d.after
    · rw [if_pos hf]
      exact (rstep_wait d x da xa dl dc xl xc w (by omega) ht2 hf (by omega) (by omega)).mono fun e w' ⟨h1, h2⟩ => ⟨xa, xl, xc, h1, hl.below h2, h2, .inl rfl⟩
    · rw [if_neg hf]
      by_cases hdn : d.done = true
      · rw [if_pos hdn]
        exact (rstep_down_true d x da xa dl dc xl xc w hs ht2 (by omega) hdn).mono fun e w' ⟨h1, h2⟩ => ⟨xa, xl, xc, h1, hl.below h2, h2, .inl rfl⟩
      · have hdn2 : d.done = false := by simpa using hdn
        rw [if_neg hdn]
        exact (rstep_down_false d x da xa dl dc xl xc w hs ht2 (by omega) hdn2).mono fun e w' ⟨h1, h2⟩ => ⟨da, dl, dc, h1, hd.below h2, h2, .inr rfl⟩
/-- The document's device stored into the variable of a result. -/
theorem Blk.dev {w : World} {b : Nat} {t : TypeId} {vs us : List Value} (h : Blk w b t (splice vs 0 us)) (hl : us.length = vs.length) : Blk w b t us := by rwa [splice_all _ _ hl] at h
theorem below_two (w : World) (o o' : Obj) : Below w.heap.size w ((w.alloc o).alloc o') := ((Below.refl _ _).alloc (Nat.le_refl _) o).alloc (by simp) o'
set_option maxHeartbeats 1000000 in
theorem rsync_any (d : DS) (da : Option Addr) (dl dc : Nat) (w : World) (hs : d.steps < 9223372036854775807) (hb : d.after ≤ 9223372036854775807) (hd : RL w (.slice da dl dc) d.loose) :
    Calls Try.prog 30 #[.agg (rdv d (.slice da dl dc)).toArray] w (RDone w (.slice da dl dc) (DM.sync d)) := by
  have hz := zeroRd
  unfold DM.sync
  obtain ⟨m, a, b, l, s, dn, tl, af, dd⟩ := d
  unfold rdv
  simp only at *
  cases dn
  · rw [if_neg (by simp)]
    have HD := Lib.hid hd
    have HS := Lib.hid hs
    have HA := Lib.hid hb
    generalize hr : DM.step _ _ = r
    have HR := Lib.hid hr
    clear hd hs hb hr
    go_enter Try.func30, Try.ntmps30
    go_upto_region 5 with (fail)
    obtain ⟨W, hW⟩ : ∃ W, W = (((w.alloc (.cells #[.int .i64 (m : Int), .string (bstr a), .string (bstr b), .slice da dl dc, .int .i64 (s : Int), .bool false, .bool tl, .int .i64 (af : Int), .bool dd] 29)).alloc (.cells #[.int .i64 0, .string { data := #[] }, .string { data := #[] }, .slice none 0 0, .int .i64 0, .bool false, .bool false, .int .i64 0, .bool false] 29)).alloc (.cells #[.int .i64 (m : Int), .string (bstr a), .string (bstr a), .slice none 0 0, .int .i64 (s : Int), .bool false, .bool tl, .int .i64 (af : Int), .bool dd] 29)) := ⟨_, rfl⟩
    have b0 : Below w.heap.size w W := by rw [hW]; exact ((((Below.refl _ _).alloc (Nat.le_refl _) _).alloc (by simp) _).alloc (by simp; omega) _)
    have k0 : Blk W (w.heap.size + 1) 29 [.int .i64 0, .string { data := #[] }, .string { data := #[] }, .slice none 0 0, .int .i64 0, .bool false, .bool false, .int .i64 0, .bool false] := by rw [hW]; exact (Blk.new (w.alloc (.cells #[.int .i64 (m : Int), .string (bstr a), .string (bstr b), .slice da dl dc, .int .i64 (s : Int), .bool false, .bool tl, .int .i64 (af : Int), .bool dd] 29)) 29 [.int .i64 0, .string { data := #[] }, .string { data := #[] }, .slice none 0 0, .int .i64 0, .bool false, .bool false, .int .i64 0, .bool false] (w.heap.size + 1) (by simp)).alloc (.cells #[.int .i64 (m : Int), .string (bstr a), .string (bstr a), .slice none 0 0, .int .i64 (s : Int), .bool false, .bool tl, .int .i64 (af : Int), .bool dd] 29)
    have BW := Lib.hid b0
    have KW := Lib.hid k0
    have hc0 := rstep_any ⟨m, a, b, l, s, false, tl, af, dd⟩ ⟨m, a, a, [], s, false, tl, af, dd⟩ da none dl dc 0 0 W HS.out rfl rfl HA.out (HD.out.below b0) (RL.none_ W)
    rw [HR.out] at hc0
    have HC := Lib.hid hc0
    have r1 : W.rangeAt w.heap.size 0 [.int .i64 (m : Int), .string (bstr a), .string (bstr b), .slice da dl dc, .int .i64 (s : Int), .bool false, .bool tl, .int .i64 (af : Int), .bool dd] := by rw [hW]; exact World.rangeAt_alloc (World.rangeAt_alloc (rangeAt_new _ _ _) _) _
    have r2 : W.rangeAt (w.heap.size + 1 + 1) 0 [.int .i64 (m : Int), .string (bstr a), .string (bstr a), .slice none 0 0, .int .i64 (s : Int), .bool false, .bool tl, .int .i64 (af : Int), .bool dd] := by rw [hW]; exact rangeAt_at _ _ _ _ (by simp)
    rw [← hW]
    have R1 := Lib.hid r1
    have R2 := Lib.hid r2
    clear hW b0 k0 hc0 r1 r2
    go_wp2_with (first
      | (refine wpList_load_mid rfl 29 (.tmp 1) rfl (w.heap.size) 0 rfl [.int .i64 (m : Int), .string (bstr a), .string (bstr b), .slice da dl dc, .int .i64 (s : Int), .bool false, .bool tl, .int .i64 (af : Int), .bool dd] _ R1.out Try.underlying29 rfl infoRd ?_)
      | (refine wpList_load_mid rfl 29 (.tmp 4) rfl (w.heap.size + 1 + 1) 0 rfl [.int .i64 (m : Int), .string (bstr a), .string (bstr a), .slice none 0 0, .int .i64 (s : Int), .bool false, .bool tl, .int .i64 (af : Int), .bool dd] _ R2.out Try.underlying29 rfl infoRd ?_)
      | (go_at_call 48; refine HC.out.mono ?_; rintro e w5 ⟨la, n, c, rfl, hl5, hb5, hq5⟩; have L5 := Lib.hid hl5; have NE5 := Lib.hid (show (.slice la n c : Value).ownBlock ≠ some (w.heap.size + 1) from by rcases hq5 with q | q <;> (rw [q]; first | (intro h; cases h; done) | (intro h; have := HD.out.lt _ h; omega))); have K5 := Lib.hid (KW.out.below hb5 KW.out.lt); have B5 := Lib.hid (BW.out.on hb5); have QQ := Lib.hid hq5; clear hl5 hb5 hq5)
      | (refine wpList_store_blk rfl 29 (.tmp 2) (.tmp 16) rfl (w.heap.size + 1) 0 [.int .i64 (r.1.most : Int), .string (bstr r.1.seen), .string (bstr r.1.safe), .slice la n c, .int .i64 (r.1.steps : Int), .bool r.1.down, .bool r.1.told, .int .i64 (r.1.after : Int), .bool r.1.done] rfl rfl 29 _ K5.out (by simp) infoRd (by simp [Value.oneCell']) ?_; intro w6 k6 g6; have K6 := Lib.hid (k6.dev rfl); have L6 := Lib.hid (L5.out.grown g6 (.inr NE5.out)); have B6 := Lib.hid (B5.out.grown g6 B5.out.size (fun k hk => by have : w.heap.size + 1 = k := Option.some.inj hk; omega)); clear k6 g6))
    exact bodyPost_ret (results_mid2 rfl _ _ (w.heap.size + 1) [.int .i64 (r.1.most : Int), .string (bstr r.1.seen), .string (bstr r.1.safe), .slice la n c, .int .i64 (r.1.steps : Int), .bool r.1.down, .bool r.1.told, .int .i64 (r.1.after : Int), .bool r.1.done] _ rfl K6.out.range Try.underlying29 rfl infoRd) rfl ⟨la, n, c, rfl, L6.out, B6.out, fun g hg => .inl (by rcases QQ.out with q | q <;> (rw [q] at hg; first | exact hg | cases hg))⟩
  · rw [if_pos rfl]
    have HD := Lib.hid hd
    clear hd
    go_enter Try.func30, Try.ntmps30
    go_wp2_with fail
    exact bodyPost_ret (results_mid2 rfl _ _ (w.heap.size + 1) [.int .i64 (m : Int), .string (bstr a), .string (bstr b), .slice da dl dc, .int .i64 (s : Int), .bool true, .bool tl, .int .i64 (af : Int), .bool dd] _ rfl (rangeAt_at _ _ _ _ (by simp)) Try.underlying29 rfl infoRd) rfl ⟨da, dl, dc, rfl, HD.out.below (below_two w _ _), below_two w _ _, fun g hg => .inl hg⟩
set_option maxHeartbeats 1000000 in
theorem rbeat_any (d : DS) (da : Option Addr) (dl dc : Nat) (w : World) (hs : d.steps < 9223372036854775807) (hb : d.after ≤ 9223372036854775807) (hd : RL w (.slice da dl dc) d.loose) :
    Calls Try.prog 31 #[.agg (rdv d (.slice da dl dc)).toArray] w (RDone w (.slice da dl dc) (DM.beat d)) := by
  have hz := zeroRd
  unfold DM.beat
  obtain ⟨m, a, b, l, s, dn, tl, af, dd⟩ := d
  unfold rdv
  simp only at *
  cases dn
  · rw [if_neg (by simp)]
    have HD := Lib.hid hd
    have HS := Lib.hid hs
    have HA := Lib.hid hb
    generalize hr : DM.step _ _ = r
    have HR := Lib.hid hr
    clear hd hs hb hr
    go_enter Try.func31, Try.ntmps31
    go_upto_region 3 with (fail)
    obtain ⟨W, hW⟩ : ∃ W, W = ((w.alloc (.cells #[.int .i64 (m : Int), .string (bstr a), .string (bstr b), .slice da dl dc, .int .i64 (s : Int), .bool false, .bool tl, .int .i64 (af : Int), .bool dd] 29)).alloc (.cells #[.int .i64 0, .string { data := #[] }, .string { data := #[] }, .slice none 0 0, .int .i64 0, .bool false, .bool false, .int .i64 0, .bool false] 29)) := ⟨_, rfl⟩
    have b0 : Below w.heap.size w W := by rw [hW]; exact (((Below.refl _ _).alloc (Nat.le_refl _) _).alloc (by simp) _)
    have k0 : Blk W (w.heap.size + 1) 29 [.int .i64 0, .string { data := #[] }, .string { data := #[] }, .slice none 0 0, .int .i64 0, .bool false, .bool false, .int .i64 0, .bool false] := by rw [hW]; exact Blk.new (w.alloc (.cells #[.int .i64 (m : Int), .string (bstr a), .string (bstr b), .slice da dl dc, .int .i64 (s : Int), .bool false, .bool tl, .int .i64 (af : Int), .bool dd] 29)) 29 [.int .i64 0, .string { data := #[] }, .string { data := #[] }, .slice none 0 0, .int .i64 0, .bool false, .bool false, .int .i64 0, .bool false] (w.heap.size + 1) (by simp)
    have BW := Lib.hid b0
    have KW := Lib.hid k0
    have hc0 := rstep_any ⟨m, a, b, l, s, false, tl, af, dd⟩ ⟨m, a, b, l, s, false, tl, af, dd⟩ da da dl dc dl dc W HS.out rfl rfl HA.out (HD.out.below b0) (HD.out.below b0)
    rw [HR.out] at hc0
    have HC := Lib.hid hc0
    have r1 : W.rangeAt w.heap.size 0 [.int .i64 (m : Int), .string (bstr a), .string (bstr b), .slice da dl dc, .int .i64 (s : Int), .bool false, .bool tl, .int .i64 (af : Int), .bool dd] := by rw [hW]; exact (World.rangeAt_alloc (rangeAt_new _ _ _) _)
    rw [← hW]
    have R1 := Lib.hid r1
    clear hW b0 k0 hc0 r1
    go_wp2_with (first
      | (refine wpList_load_mid rfl 29 (.tmp 1) rfl (w.heap.size) 0 rfl [.int .i64 (m : Int), .string (bstr a), .string (bstr b), .slice da dl dc, .int .i64 (s : Int), .bool false, .bool tl, .int .i64 (af : Int), .bool dd] _ R1.out Try.underlying29 rfl infoRd ?_)
      | fail
      | (go_at_call 48; refine HC.out.mono ?_; rintro e w5 ⟨la, n, c, rfl, hl5, hb5, hq5⟩; have L5 := Lib.hid hl5; have NE5 := Lib.hid (show (.slice la n c : Value).ownBlock ≠ some (w.heap.size + 1) from by rcases hq5 with q | q <;> (rw [q]; first | (intro h; cases h; done) | (intro h; have := HD.out.lt _ h; omega))); have K5 := Lib.hid (KW.out.below hb5 KW.out.lt); have B5 := Lib.hid (BW.out.on hb5); have QQ := Lib.hid hq5; clear hl5 hb5 hq5)
      | (refine wpList_store_blk rfl 29 (.tmp 2) (.tmp 10) rfl (w.heap.size + 1) 0 [.int .i64 (r.1.most : Int), .string (bstr r.1.seen), .string (bstr r.1.safe), .slice la n c, .int .i64 (r.1.steps : Int), .bool r.1.down, .bool r.1.told, .int .i64 (r.1.after : Int), .bool r.1.done] rfl rfl 29 _ K5.out (by simp) infoRd (by simp [Value.oneCell']) ?_; intro w6 k6 g6; have K6 := Lib.hid (k6.dev rfl); have L6 := Lib.hid (L5.out.grown g6 (.inr NE5.out)); have B6 := Lib.hid (B5.out.grown g6 B5.out.size (fun k hk => by have : w.heap.size + 1 = k := Option.some.inj hk; omega)); clear k6 g6))
    exact bodyPost_ret (results_mid2 rfl _ _ (w.heap.size + 1) [.int .i64 (r.1.most : Int), .string (bstr r.1.seen), .string (bstr r.1.safe), .slice la n c, .int .i64 (r.1.steps : Int), .bool r.1.down, .bool r.1.told, .int .i64 (r.1.after : Int), .bool r.1.done] _ rfl K6.out.range Try.underlying29 rfl infoRd) rfl ⟨la, n, c, rfl, L6.out, B6.out, fun g hg => .inl (by rcases QQ.out with q | q <;> (rw [q] at hg; first | exact hg | cases hg))⟩
  · rw [if_pos rfl]
    have HD := Lib.hid hd
    clear hd
    go_enter Try.func31, Try.ntmps31
    go_wp2_with fail
    exact bodyPost_ret (results_mid2 rfl _ _ (w.heap.size + 1) [.int .i64 (m : Int), .string (bstr a), .string (bstr b), .slice da dl dc, .int .i64 (s : Int), .bool true, .bool tl, .int .i64 (af : Int), .bool dd] _ rfl (rangeAt_at _ _ _ _ (by simp)) Try.underlying29 rfl infoRd) rfl ⟨da, dl, dc, rfl, HD.out.below (below_two w _ _), below_two w _ _, fun g hg => .inl hg⟩
theorem rfail_any (d : DS) (x : Int) (y : Bool) (da : Option Addr) (dl dc : Nat) (w : World) (hd : RL w (.slice da dl dc) d.loose) :
    Calls Try.prog 32 #[.agg (rdv d (.slice da dl dc)).toArray, .int .i64 x, .bool y] w (RDone w (.slice da dl dc) (DM.fail d x y)) := by
  have hz := zeroRd
  unfold DM.fail
  obtain ⟨m, a, b, l, s, dn, tl, af, dd⟩ := d
  unfold rdv
  simp only at *
  have HD := Lib.hid hd
  clear hd
  cases dn
  · rw [if_neg (by simp)]
    have hm : max x 0 = ((x.toNat : Nat) : Int) := by omega
    generalize x.toNat = t at *
    go_enter Try.func32, Try.ntmps32
    go_wp2_with fail
    · obtain rfl : t = 0 := by omega
      exact bodyPost_ret (results_mid2 rfl _ _ (w.heap.size + 1) [.int .i64 (m : Int), .string (bstr a), .string (bstr b), .slice da dl dc, .int .i64 (s : Int), .bool false, .bool true, .int .i64 0, .bool y] _ rfl (rangeAt_at _ _ _ _ (by simp)) Try.underlying29 rfl infoRd) rfl ⟨da, dl, dc, rfl, HD.out.below (below_two w _ _), below_two w _ _, fun g hg => .inl hg⟩
    · obtain rfl : x = (t : Int) := by omega
      exact bodyPost_ret (results_mid2 rfl _ _ (w.heap.size + 1) [.int .i64 (m : Int), .string (bstr a), .string (bstr b), .slice da dl dc, .int .i64 (s : Int), .bool false, .bool true, .int .i64 (t : Int), .bool y] _ rfl (rangeAt_at _ _ _ _ (by simp)) Try.underlying29 rfl infoRd) rfl ⟨da, dl, dc, rfl, HD.out.below (below_two w _ _), below_two w _ _, fun g hg => .inl hg⟩
  · rw [if_pos rfl]
    go_enter Try.func32, Try.ntmps32
    go_wp2_with fail
    exact bodyPost_ret (results_mid2 rfl _ _ (w.heap.size + 1) [.int .i64 (m : Int), .string (bstr a), .string (bstr b), .slice da dl dc, .int .i64 (s : Int), .bool true, .bool tl, .int .i64 (af : Int), .bool dd] _ rfl (rangeAt_at _ _ _ _ (by simp)) Try.underlying29 rfl infoRd) rfl ⟨da, dl, dc, rfl, HD.out.below (below_two w _ _), below_two w _ _, fun g hg => .inl hg⟩
/-- What a call hands back that tells no number: the device r. -/
def RGave (w0 : World) (lv : Value) (r : DS) (e : Ending) (w' : World) : Prop :=
  ∃ la n c, e = .returned (.agg #[.int .i64 (r.most : Int), .string (bstr r.seen), .string (bstr r.safe), .slice la n c, .int .i64 (r.steps : Int), .bool r.down, .bool r.told, .int .i64 (r.after : Int), .bool r.done]) ∧ RL w' (.slice la n c) r.loose ∧ Below w0.heap.size w0 w' ∧ ∀ g, (.slice la n c : Value).ownBlock = some g → lv.ownBlock = some g ∨ w0.heap.size ≤ g
theorem rload_any (d : DS) (x : List Nat) (da : Option Addr) (dl dc : Nat) (w : World) (hd : RL w (.slice da dl dc) d.loose) :
    Calls Try.prog 35 #[.agg (rdv d (.slice da dl dc)).toArray, .string (bstr x)] w (RGave w (.slice da dl dc) (DM.load d x)) := by
  have hz := zeroRd
  have hsz := bstr_size x
  unfold DM.load
  obtain ⟨m, a, b, l, s, dn, tl, af, dd⟩ := d
  unfold rdv
  simp only at *
  have HD := Lib.hid hd
  clear hd
  by_cases hc : m < x.length
  · rw [if_pos hc]
    have hc2 : (m : Int) < (x.length : Int) := by omega
    clear hc
    go_enter Try.func35, Try.ntmps35
    go_wp2_with fail
    exact bodyPost_ret (results_mid rfl _ _ (w.heap.size + 1) [.int .i64 (m : Int), .string (bstr a), .string (bstr b), .slice da dl dc, .int .i64 (s : Int), .bool dn, .bool tl, .int .i64 (af : Int), .bool dd] _ rfl (rangeAt_at _ _ _ _ (by simp)) Try.underlying29 rfl infoRd) rfl ⟨da, dl, dc, rfl, HD.out.below (below_two w _ _), below_two w _ _, fun g hg => .inl hg⟩
  · rw [if_neg hc]
    have hc2 : ¬ (m : Int) < (x.length : Int) := by omega
    clear hc
    go_enter Try.func35, Try.ntmps35
    go_wp2_with fail
    exact bodyPost_ret (results_mid rfl _ _ (w.heap.size + 1) [.int .i64 (m : Int), .string (bstr x), .string (bstr x), .slice none 0 0, .int .i64 (s : Int), .bool dn, .bool tl, .int .i64 (af : Int), .bool dd] _ rfl (rangeAt_at _ _ _ _ (by simp)) Try.underlying29 rfl infoRd) rfl ⟨none, 0, 0, rfl, RL.none_ _, below_two w _ _, fun g hg => by cases hg⟩
theorem rdnew_any (x : Int) (w : World) : Calls Try.prog 11 #[.int .i64 x] w (RGave w (.slice none 0 0) (DM.new x)) := by
  have hz := zeroRd
  have hm : max 0 (min x 16777216) = ((max 0 (min x 16777216)).toNat : Int) := by omega
  unfold DM.new
  generalize (max 0 (min x 16777216)).toNat = t at hm ⊢
  by_cases h1 : x < 0
  · obtain rfl : t = 0 := by omega
    have h2 : ¬ 16777216 < x := by omega
    have h3 : x ≤ 16777216 := by omega
    have h4 : ¬ 0 ≤ x := by omega
    clear hm
    go_enter Try.func11, Try.ntmps11
    go_wp2_with fail
    exact bodyPost_ret (results_mid rfl _ _ (w.heap.size) [.int .i64 0, .string (bstr []), .string (bstr []), .slice none 0 0, .int .i64 0, .bool false, .bool false, .int .i64 0, .bool false] _ rfl (rangeAt_new w _ _) Try.underlying29 rfl infoRd) rfl ⟨none, 0, 0, rfl, RL.none_ _, (Below.refl _ _).alloc (Nat.le_refl _) _, fun g hg => by cases hg⟩
  · by_cases h2 : 16777216 < x
    · obtain rfl : t = 16777216 := by omega
      have h3 : ¬ x ≤ 16777216 := by omega
      clear hm
      go_enter Try.func11, Try.ntmps11
      go_wp2_with fail
      exact bodyPost_ret (results_mid rfl _ _ (w.heap.size) [.int .i64 16777216, .string (bstr []), .string (bstr []), .slice none 0 0, .int .i64 0, .bool false, .bool false, .int .i64 0, .bool false] _ rfl (rangeAt_new w _ _) Try.underlying29 rfl infoRd) rfl ⟨none, 0, 0, rfl, RL.none_ _, (Below.refl _ _).alloc (Nat.le_refl _) _, fun g hg => by cases hg⟩
    · by_cases h5 : x = 0
      · subst h5
        obtain rfl : t = 0 := by omega
        clear hm
        go_enter Try.func11, Try.ntmps11
        go_wp2_with fail
        exact bodyPost_ret (results_mid rfl _ _ (w.heap.size) [.int .i64 0, .string (bstr []), .string (bstr []), .slice none 0 0, .int .i64 0, .bool false, .bool false, .int .i64 0, .bool false] _ rfl (rangeAt_new w _ _) Try.underlying29 rfl infoRd) rfl ⟨none, 0, 0, rfl, RL.none_ _, (Below.refl _ _).alloc (Nat.le_refl _) _, fun g hg => by cases hg⟩
      · obtain rfl : x = (t : Int) := by omega
        have h3 : (t : Int) ≤ 16777216 := by omega
        have h6 : (0 : Int) < (t : Int) := by omega
        have h7 : ¬ (t : Int) < 0 := by omega
        clear hm
        go_enter Try.func11, Try.ntmps11
        go_wp2_with fail
        exact bodyPost_ret (results_mid rfl _ _ (w.heap.size) [.int .i64 (t : Int), .string (bstr []), .string (bstr []), .slice none 0 0, .int .i64 0, .bool false, .bool false, .int .i64 0, .bool false] _ rfl (rangeAt_new w _ _) Try.underlying29 rfl infoRd) rfl ⟨none, 0, 0, rfl, RL.none_ _, (Below.refl _ _).alloc (Nat.le_refl _) _, fun g hg => by cases hg⟩
end Go.Proofs.Ytipdcocliefppaa
