/- What every right program tells of a known key. Own work. -/
import Derived.Test.YtllhljhbnopafaaDoorHmacOf
import Derived.Test.YtllhljhbnopafaaDoorHmacEqual
import Derived.Lib.SlBytesConst
namespace Go.Proofs.YtllhljhbnopafaaDoor
open Go.ChangeShapes Go.WideShapes Go.ChangeAt Go.RowKit
open SM
/-- A constant text's bytes. -/
theorem rd_const (w : World) (l : List Nat) (hl : ∀ k, gb l k < 256) (hf : l.length ≤ 140737488351232) (n : Nat) (hn : n = l.length) (b : Nat) (hb : b = w.heap.size) (mk : Nat × Nat) : Rd (w.alloc (.cells (row8 l).toArray 5 mk)) (.slice (some ⟨b, 0, none⟩) n n) l := by
  subst hb; subst hn
  refine ⟨hl, hf, .inr ⟨_, _, rfl, Nat.le_refl _, fun j hj => ?_⟩⟩
  rw [Addr.add_mid, World.cell?_alloc_mark, Nat.zero_add]
  exact row8_get l j hj
theorem equal_ones (w : World) (b c : Nat) (hb : b = w.heap.size) (hc : c = w.heap.size + 1) :
    Calls Tryd.prog 16 #[.slice (some ⟨b, 0, none⟩) 1 1, .slice (some ⟨c, 0, none⟩) 1 1] ((w.alloc (.cells #[.int .u8 1] 5)).alloc (.cells #[.int .u8 1] 5)) fun e w' => e = .returned (.bool true) ∧ Below w.heap.size w w' := by
  have b1 : ∀ k, gb [1] k < 256 := fun k => by
    cases k with
    | zero => decide
    | succ k => exact Nat.zero_lt_succ _
  have o1 := own_new w [1] b1 (by simp) hb (Nat.le_refl _)
  have o2 := own_new (w.alloc (.cells (row8 [1]).toArray 5)) [1] b1 (by simp) (b := c) (by rw [hc]; simp) (Nat.le_refl _)
  have bb := ((Below.refl w.heap.size w).alloc (Nat.le_refl _) (.cells (row8 [1]).toArray 5)).alloc (by simp) (.cells (row8 [1]).toArray 5)
  exact (equal_any [1] [1] _ _ _ (o1.rd.alloc _) o2.rd).mono fun e w' h => ⟨by rw [h.1]; simp, bb.on h.2⟩
def jefe : List Nat := [74, 101, 102, 101]
def want : List Nat := [119, 104, 97, 116, 32, 100, 111, 32, 121, 97, 32, 119, 97, 110, 116, 32, 102, 111, 114, 32, 110, 111, 116, 104, 105, 110, 103, 63]
theorem small_bytes {l : List Nat} (h : l.all (· < 256) = true) (k : Nat) : gb l k < 256 := by
  unfold gb
  rw [List.getD_eq_getElem?_getD]
  cases q : l[k]? with
  | none => show 0 < 256; omega
  | some x =>
    rw [List.all_eq_true] at h
    simpa using h x (List.mem_of_getElem? q)
theorem mac_at (M : List Nat) (a b c d : Nat) (h : M.take 4 = [a, b, c, d]) : (row8 M)[0]? = some (.int .u8 (a : Int)) ∧ (row8 M)[1]? = some (.int .u8 (b : Int)) ∧ (row8 M)[2]? = some (.int .u8 (c : Int)) ∧ (row8 M)[3]? = some (.int .u8 (d : Int)) := by
  have g : ∀ k x, k < 4 → [a, b, c, d][k]? = some x → (row8 M)[k]? = some (.int .u8 (x : Int)) := fun k x hk hx => by
    rw [← h, List.getElem?_take, if_pos hk] at hx
    unfold row8; rw [List.getElem?_map, hx]; rfl
  exact ⟨g 0 a (by omega) rfl, g 1 b (by omega) rfl, g 2 c (by omega) rfl, g 3 d (by omega) rfl⟩
set_option maxRecDepth 100000 in
set_option maxHeartbeats 1000000 in
theorem hawake_any (w : World) (ht : TabP w) : Calls Tryd.prog 12 #[] w fun e w' => e = .returned (.bool true) ∧ Below w.heap.size w w' := by
  obtain ⟨M, hM⟩ : ∃ M, M = mac jefe want := ⟨_, rfl⟩
  obtain ⟨s0, s1, s2, s3⟩ := mac_at M 0x5b 0xdc 0xc1 0x46 (by rw [hM]; exact mac_jefe)
  have hb : Bytes 32 M := by rw [hM]; exact mac_bytes _ _
  have w1 : Below w.heap.size w (w.alloc (.cells (row8 jefe).toArray 5 (4, 5))) := ((Below.refl _ _).alloc (Nat.le_refl _) (.cells (row8 jefe).toArray 5 (4, 5)))
  have w2 : Below w.heap.size w ((w.alloc (.cells (row8 jefe).toArray 5 (4, 5))).alloc (.cells (row8 want).toArray 5 (28, 29))) := w1.alloc w1.size _
  have hof := hof_one_at (w := (w.alloc (.cells (row8 jefe).toArray 5 (4, 5))).alloc (.cells (row8 want).toArray 5 (28, 29))) (b := w.heap.size + 1 + 1) (by simp)
    ((rd_const w jefe (small_bytes (by decide)) (by decide) 4 rfl _ rfl (4, 5)).alloc _) (rd_const (w.alloc (.cells (row8 jefe).toArray 5 (4, 5))) want (small_bytes (by decide)) (by decide) 28 rfl (w.heap.size + 1) (by simp) (28, 29)) (ht.below w2) (by decide) hM
  have HOF := Lib.hid hof
  have B2 := Lib.hid w2
  have HS0 := Lib.hid s0
  have HS1 := Lib.hid s1
  have HS2 := Lib.hid s2
  have HS3 := Lib.hid s3
  have H32 := Lib.hid (show (row8 M).length = 32 by rw [row8_len]; exact hb.1)
  obtain ⟨C0, hC0⟩ : ∃ C0, C0 = row8 (List.replicate 32 0) := ⟨_, rfl⟩
  have hz : ∀ w, (zeroValue 26).run Tryd.prog w = .ok (.agg C0.toArray) w := by rw [hC0]; exact zeroSum
  have hc0 : C0.length = 32 := by rw [hC0, row8_len, List.length_replicate]
  clear hof w1 w2 s0 s1 s2 s3 hb hM ht hC0
  have kc := fun (w : World) (C : Array Value) (n c : Nat) => Lib.run_convert_bytes_const (P := Tryd.prog) w 22 5 C n c Tryd.underlying22 Tryd.underlying5
  have kc2 := fun (o : Obj) (C : Array Value) (n c : Nat) => Lib.run_convert_bytes_const (P := Tryd.prog) (w.alloc o) 22 5 C n c Tryd.underlying22 Tryd.underlying5
  have hsz : ∀ o : Obj, (w.alloc o).heap.size = w.heap.size + 1 := fun o => by simp
  simp only [hsz] at kc2
  clear hsz
  go_enter Tryd.func12, Tryd.ntmps12
  go_wp2_with (first
    | (go_at_call 10; (refine HOF.out.mono ?_); rintro e w3 ⟨rfl, b3⟩; have B3 := Lib.hid (B2.out.on b3); clear b3)
    | (refine wpList_store_blk rfl 26 (.tmp 1) (.tmp 7) rfl w3.heap.size 0 (row8 M) rfl rfl 26 C0 (Blk.new w3 26 C0 _ rfl) (by rw [H32.out, hc0]; exact Nat.le_refl _) (by rw [H32.out]; exact infoS) (row8_one _) ?_; intro w4 b4 g4; rw [splice_all _ _ (by rw [H32.out, hc0])] at b4; have c0 := b4.cell 0 _ HS0.out; have c1 := b4.cell 1 _ HS1.out; have c2 := b4.cell 2 _ HS2.out; have c3 := b4.cell 3 _ HS3.out; have B4 := Lib.hid (own_turn B3.out g4); clear b4 g4)
    | (go_at_call 16; refine (equal_ones w4 _ _ rfl rfl).mono ?_; rintro e w5 ⟨rfl, b5⟩; have B5 := Lib.hid (B4.out.on b5); clear b5))
  go_ret
  exact ⟨rfl, B5.out⟩
end Go.Proofs.YtllhljhbnopafaaDoor
