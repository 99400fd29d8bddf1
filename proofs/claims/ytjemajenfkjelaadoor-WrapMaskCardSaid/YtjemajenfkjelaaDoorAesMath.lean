/- AES on numbers: the boxes, a round and the way back, all rounds, round keys. Own work. -/
import Derived.Test.YtjemajenfkjelaaDoorMem
import Derived.Test.YtjemajenfkjelaaDoorFieldMath
namespace Go.Proofs.YtjemajenfkjelaaDoor
namespace AM
open FM
def tab : List Nat := [
  99, 124, 119, 123, 242, 107, 111, 197, 48, 1, 103, 43, 254, 215, 171, 118, 202, 130, 201, 125, 250, 89, 71, 240, 173, 212, 162, 175, 156, 164, 114, 192,
  183, 253, 147, 38, 54, 63, 247, 204, 52, 165, 229, 241, 113, 216, 49, 21, 4, 199, 35, 195, 24, 150, 5, 154, 7, 18, 128, 226, 235, 39, 178, 117,
  9, 131, 44, 26, 27, 110, 90, 160, 82, 59, 214, 179, 41, 227, 47, 132, 83, 209, 0, 237, 32, 252, 177, 91, 106, 203, 190, 57, 74, 76, 88, 207,
  208, 239, 170, 251, 67, 77, 51, 133, 69, 249, 2, 127, 80, 60, 159, 168, 81, 163, 64, 143, 146, 157, 56, 245, 188, 182, 218, 33, 16, 255, 243, 210,
  205, 12, 19, 236, 95, 151, 68, 23, 196, 167, 126, 61, 100, 93, 25, 115, 96, 129, 79, 220, 34, 42, 144, 136, 70, 238, 184, 20, 222, 94, 11, 219,
  224, 50, 58, 10, 73, 6, 36, 92, 194, 211, 172, 98, 145, 149, 228, 121, 231, 200, 55, 109, 141, 213, 78, 169, 108, 86, 244, 234, 101, 122, 174, 8,
  186, 120, 37, 46, 28, 166, 180, 198, 232, 221, 116, 31, 75, 189, 139, 138, 112, 62, 181, 102, 72, 3, 246, 14, 97, 53, 87, 185, 134, 193, 29, 158,
  225, 248, 152, 17, 105, 217, 142, 148, 155, 30, 135, 233, 206, 85, 40, 223, 140, 161, 137, 13, 191, 230, 66, 104, 65, 153, 45, 15, 176, 84, 187, 22]
def box (x : Nat) : Nat := gb tab x
def untab : List Nat := (List.range 256).map fun x => tab.idxOf x
def unb (x : Nat) : Nat := gb untab x
theorem tab_len : tab.length = 256 := by decide +kernel
theorem box_all : ((List.range 256).all fun x => decide (box x < 256) && unb (box x) == x && decide (unb x < 256) && box (unb x) == x) = true := by decide +kernel
theorem box_at (x : Nat) (h : x < 256) : box x < 256 ∧ unb (box x) = x ∧ unb x < 256 ∧ box (unb x) = x := by
  have h1 := List.all_eq_true.1 box_all x (by simpa using h)
  simp only [Bool.and_eq_true, decide_eq_true_eq, beq_iff_eq] at h1
  exact ⟨h1.1.1.1, h1.1.1.2, h1.1.2, h1.2⟩
theorem box_byte (x : Nat) : box x < 256 := by
  rcases Nat.lt_or_ge x 256 with h | h
  · exact (box_at x h).1
  · unfold box gb
    rw [List.getD_eq_getElem?_getD, List.getElem?_eq_none (by rw [tab_len]; exact h)]
    show 0 < 256; omega
theorem unb_byte (x : Nat) : unb x < 256 := by
  rcases Nat.lt_or_ge x 256 with h | h
  · exact (box_at x h).2.2.1
  · unfold unb gb untab
    rw [List.getD_eq_getElem?_getD, List.getElem?_eq_none (by simpa using h)]
    show 0 < 256; omega
/-- Sixteen bytes by place. -/
def row (f : Nat → Nat) : List Nat := (List.range 16).map f
theorem row_len (f : Nat → Nat) : (row f).length = 16 := by simp [row]
theorem row_get (f : Nat → Nat) (k : Nat) (h : k < 16) : gb (row f) k = f k := by
  unfold row; rw [gb_map, if_pos h]
theorem row_bytes (f : Nat → Nat) (h : ∀ k, k < 16 → f k < 256) : Bytes 16 (row f) := by
  refine ⟨row_len f, fun k => ?_⟩
  unfold row; rw [gb_map]
  split
  · exact h k (by assumption)
  · omega
def ax (a b : List Nat) : List Nat := row fun i => gb a i ^^^ gb b i
def ss (s : List Nat) : List Nat := row fun i => box (gb s (4 * ((i / 4 + i % 4) % 4) + i % 4))
def iss (s : List Nat) : List Nat := row fun i => unb (gb s (4 * ((i / 4 + 4 - i % 4) % 4) + i % 4))
/-- A column's byte, j rows on. -/
def at_ (t : List Nat) (i j : Nat) : Nat := gb t (4 * (i / 4) + (i % 4 + j) % 4)
def mx (t : List Nat) : List Nat := row fun i => mul 2 (at_ t i 0) ^^^ mul 3 (at_ t i 1) ^^^ at_ t i 2 ^^^ at_ t i 3
def imx (t : List Nat) : List Nat := row fun i => mul 14 (at_ t i 0) ^^^ mul 11 (at_ t i 1) ^^^ mul 13 (at_ t i 2) ^^^ mul 9 (at_ t i 3)
theorem ax_bytes {a b : List Nat} (ha : Bytes 16 a) (hb : Bytes 16 b) : Bytes 16 (ax a b) := row_bytes _ fun k _ => lt_of_xor (ha.2 k) (hb.2 k)
theorem ss_bytes (s : List Nat) : Bytes 16 (ss s) := row_bytes _ fun _ _ => box_byte _
theorem iss_bytes (s : List Nat) : Bytes 16 (iss s) := row_bytes _ fun _ _ => unb_byte _
theorem at_lt {t : List Nat} (h : Bytes 16 t) (i j : Nat) : at_ t i j < 256 := h.2 _
theorem mx_bytes {t : List Nat} (h : Bytes 16 t) : Bytes 16 (mx t) := row_bytes _ fun k _ => lt_of_xor (lt_of_xor (lt_of_xor (mul_lt _ _ (by omega)) (mul_lt _ _ (by omega))) (at_lt h _ _)) (at_lt h _ _)
theorem imx_bytes (t : List Nat) : Bytes 16 (imx t) := row_bytes _ fun k _ => lt_of_xor (lt_of_xor (lt_of_xor (mul_lt _ _ (by omega)) (mul_lt _ _ (by omega))) (mul_lt _ _ (by omega))) (mul_lt _ _ (by omega))
theorem ax_ax {a b : List Nat} (ha : Bytes 16 a) : ax (ax a b) b = a :=
  bytes_ext (n := 16) (row_len _) ha.1 fun k hk => by
    unfold ax
    rw [row_get _ _ hk, row_get _ _ hk, Nat.xor_assoc, Nat.xor_self, Nat.xor_zero]
theorem shift_there (i : Nat) (h : i < 16) : 4 * ((i / 4 + 4 - i % 4) % 4) + i % 4 < 16 ∧ 4 * (((4 * ((i / 4 + 4 - i % 4) % 4) + i % 4) / 4 + (4 * ((i / 4 + 4 - i % 4) % 4) + i % 4) % 4) % 4) + (4 * ((i / 4 + 4 - i % 4) % 4) + i % 4) % 4 = i := by omega
theorem shift_back (i : Nat) (h : i < 16) : 4 * ((i / 4 + i % 4) % 4) + i % 4 < 16 ∧ 4 * (((4 * ((i / 4 + i % 4) % 4) + i % 4) / 4 + 4 - (4 * ((i / 4 + i % 4) % 4) + i % 4) % 4) % 4) + (4 * ((i / 4 + i % 4) % 4) + i % 4) % 4 = i := by omega
theorem iss_ss {s : List Nat} (hs : Bytes 16 s) : iss (ss s) = s :=
  bytes_ext (n := 16) (row_len _) hs.1 fun k hk => by
    obtain ⟨h1, h2⟩ := shift_there k hk
    unfold iss ss
    rw [row_get _ _ hk, row_get _ _ h1, h2, (box_at _ (hs.2 k)).2.1]
theorem ss_iss {s : List Nat} (hs : Bytes 16 s) : ss (iss s) = s :=
  bytes_ext (n := 16) (row_len _) hs.1 fun k hk => by
    obtain ⟨h1, h2⟩ := shift_back k hk
    unfold iss ss
    rw [row_get _ _ hk, row_get _ _ h1, h2, (box_at _ (hs.2 k)).2.2.2]
theorem mm (a b x : Nat) (ha : a < 256) (hb : b < 256) (hx : x < 256) : mul a (mul b x) = mul (mul a b) x := mul_assoc a b x ha hb hx
theorem four (p q r s t x : Nat) (h : p ^^^ q ^^^ r ^^^ s = t) : mul p x ^^^ mul q x ^^^ mul r x ^^^ mul s x = mul t x := by
  rw [← mul_xor_left, ← mul_xor_left, ← mul_xor_left, h]
/-- The way back from a mixed column. -/
theorem col_back (a b c d : Nat) (ha : a < 256) (hb : b < 256) (hc : c < 256) (hd : d < 256) :
    mul 14 (mul 2 a ^^^ mul 3 b ^^^ c ^^^ d) ^^^ mul 11 (mul 2 b ^^^ mul 3 c ^^^ d ^^^ a) ^^^ mul 13 (mul 2 c ^^^ mul 3 d ^^^ a ^^^ b) ^^^ mul 9 (mul 2 d ^^^ mul 3 a ^^^ b ^^^ c) = a := by
  simp only [mul_xor_right]
  rw [mm 14 2 a (by omega) (by omega) ha, mm 14 3 b (by omega) (by omega) hb, mm 11 2 b (by omega) (by omega) hb, mm 11 3 c (by omega) (by omega) hc, mm 13 2 c (by omega) (by omega) hc, mm 13 3 d (by omega) (by omega) hd, mm 9 2 d (by omega) (by omega) hd, mm 9 3 a (by omega) (by omega) ha]
  have e0 := four (mul 14 2) 11 13 (mul 9 3) 1 a (by decide +kernel)
  have e1 := four (mul 14 3) (mul 11 2) 13 9 0 b (by decide +kernel)
  have e2 := four 14 (mul 11 3) (mul 13 2) 9 0 c (by decide +kernel)
  have e3 := four 14 11 (mul 13 3) (mul 9 2) 0 d (by decide +kernel)
  rw [one_mul a ha] at e0
  rw [mul_zero_left] at e1 e2 e3
  generalize mul (mul 14 2) a = x1 at *
  generalize mul (mul 14 3) b = x2 at *
  generalize mul 14 c = x3 at *
  generalize mul 14 d = x4 at *
  generalize mul (mul 11 2) b = x5 at *
  generalize mul (mul 11 3) c = x6 at *
  generalize mul 11 d = x7 at *
  generalize mul 11 a = x8 at *
  generalize mul (mul 13 2) c = x9 at *
  generalize mul (mul 13 3) d = y1 at *
  generalize mul 13 a = y2 at *
  generalize mul 13 b = y3 at *
  generalize mul (mul 9 2) d = y4 at *
  generalize mul (mul 9 3) a = y5 at *
  generalize mul 9 b = y6 at *
  generalize mul 9 c = y7 at *
  calc _ = (x1 ^^^ x8 ^^^ y2 ^^^ y5) ^^^ (x2 ^^^ x5 ^^^ y3 ^^^ y6) ^^^ (x3 ^^^ x6 ^^^ x9 ^^^ y7) ^^^ (x4 ^^^ x7 ^^^ y1 ^^^ y4) := by ac_rfl
    _ = a := by rw [e0, e1, e2, e3]; simp
/-- A column made the way back, mixed. -/
theorem col_there (a b c d : Nat) (ha : a < 256) (hb : b < 256) (hc : c < 256) (hd : d < 256) :
    mul 2 (mul 14 a ^^^ mul 11 b ^^^ mul 13 c ^^^ mul 9 d) ^^^ mul 3 (mul 14 b ^^^ mul 11 c ^^^ mul 13 d ^^^ mul 9 a) ^^^ (mul 14 c ^^^ mul 11 d ^^^ mul 13 a ^^^ mul 9 b) ^^^ (mul 14 d ^^^ mul 11 a ^^^ mul 13 b ^^^ mul 9 c) = a := by
  simp only [mul_xor_right]
  rw [mm 2 14 a (by omega) (by omega) ha, mm 2 11 b (by omega) (by omega) hb, mm 2 13 c (by omega) (by omega) hc, mm 2 9 d (by omega) (by omega) hd, mm 3 14 b (by omega) (by omega) hb, mm 3 11 c (by omega) (by omega) hc, mm 3 13 d (by omega) (by omega) hd, mm 3 9 a (by omega) (by omega) ha]
  have e0 := four (mul 2 14) (mul 3 9) 13 11 1 a (by decide +kernel)
  have e1 := four (mul 2 11) (mul 3 14) 9 13 0 b (by decide +kernel)
  have e2 := four (mul 2 13) (mul 3 11) 14 9 0 c (by decide +kernel)
  have e3 := four (mul 2 9) (mul 3 13) 11 14 0 d (by decide +kernel)
  rw [one_mul a ha] at e0
  rw [mul_zero_left] at e1 e2 e3
  generalize mul (mul 2 14) a = x1 at *
  generalize mul (mul 2 11) b = x2 at *
  generalize mul (mul 2 13) c = x3 at *
  generalize mul (mul 2 9) d = x4 at *
  generalize mul (mul 3 14) b = x5 at *
  generalize mul (mul 3 11) c = x6 at *
  generalize mul (mul 3 13) d = x7 at *
  generalize mul (mul 3 9) a = x8 at *
  generalize mul 14 c = x9 at *
  generalize mul 11 d = y1 at *
  generalize mul 13 a = y2 at *
  generalize mul 9 b = y3 at *
  generalize mul 14 d = y4 at *
  generalize mul 11 a = y5 at *
  generalize mul 13 b = y6 at *
  generalize mul 9 c = y7 at *
  calc _ = (x1 ^^^ x8 ^^^ y2 ^^^ y5) ^^^ (x2 ^^^ x5 ^^^ y3 ^^^ y6) ^^^ (x3 ^^^ x6 ^^^ x9 ^^^ y7) ^^^ (x4 ^^^ x7 ^^^ y1 ^^^ y4) := by ac_rfl
    _ = a := by rw [e0, e1, e2, e3]; simp
theorem at_row (f : Nat → Nat) (i j : Nat) (h : i < 16) : at_ (row f) i j = f (4 * (i / 4) + (i % 4 + j) % 4) := by
  unfold at_; rw [row_get _ _ (by omega)]
/-- The place j rows on, and k more. -/
theorem on_on (i j k : Nat) : 4 * ((4 * (i / 4) + (i % 4 + j) % 4) / 4) + ((4 * (i / 4) + (i % 4 + j) % 4) % 4 + k) % 4 = 4 * (i / 4) + (i % 4 + (j + k)) % 4 := by omega
theorem at_at (t : List Nat) (i j k : Nat) : at_ t (4 * (i / 4) + (i % 4 + j) % 4) k = at_ t i ((j + k) % 4) := by
  unfold at_; congr 1; omega
theorem at_zero (t : List Nat) (i : Nat) : at_ t i 0 = gb t i := by
  unfold at_; congr 1; omega
theorem imx_mx {t : List Nat} (ht : Bytes 16 t) : imx (mx t) = t :=
  bytes_ext (n := 16) (row_len _) ht.1 fun k hk => by
    unfold imx mx
    rw [row_get _ _ hk, at_row _ _ _ hk, at_row _ _ _ hk, at_row _ _ _ hk, at_row _ _ _ hk]
    simp only [at_at, Nat.reduceAdd, Nat.reduceMod]
    rw [col_back _ _ _ _ (at_lt ht _ _) (at_lt ht _ _) (at_lt ht _ _) (at_lt ht _ _), at_zero]
theorem mx_imx {t : List Nat} (ht : Bytes 16 t) : mx (imx t) = t :=
  bytes_ext (n := 16) (row_len _) ht.1 fun k hk => by
    unfold imx mx
    rw [row_get _ _ hk, at_row _ _ _ hk, at_row _ _ _ hk, at_row _ _ _ hk, at_row _ _ _ hk]
    simp only [at_at, Nat.reduceAdd, Nat.reduceMod]
    rw [col_there _ _ _ _ (at_lt ht _ _) (at_lt ht _ _) (at_lt ht _ _) (at_lt ht _ _), at_zero]
/-- Rounds there, by round keys. -/
def encTo (k : Nat → List Nat) (s : List Nat) : Nat → List Nat
  | 0 => ax s (k 0)
  | n + 1 => ax (mx (ss (encTo k s n))) (k (n + 1))
def enc (k : Nat → List Nat) (s : List Nat) : List Nat := ax (ss (encTo k s 13)) (k 14)
/-- Rounds back. -/
def decTo (k : Nat → List Nat) (b : List Nat) : Nat → List Nat
  | 0 => b
  | 1 => iss (ax b (k 14))
  | n + 2 => iss (imx (ax (decTo k b (n + 1)) (k (13 - n))))
def dec (k : Nat → List Nat) (b : List Nat) : List Nat := ax (decTo k b 14) (k 0)
theorem encTo_bytes {k : Nat → List Nat} (hk : ∀ n, Bytes 16 (k n)) {s : List Nat} (hs : Bytes 16 s) : ∀ n, Bytes 16 (encTo k s n)
  | 0 => ax_bytes hs (hk 0)
  | n + 1 => ax_bytes (mx_bytes (ss_bytes _)) (hk (n + 1))
theorem enc_bytes {k : Nat → List Nat} (hk : ∀ n, Bytes 16 (k n)) (s : List Nat) : Bytes 16 (enc k s) := ax_bytes (ss_bytes _) (hk 14)
theorem decTo_bytes {k : Nat → List Nat} {b : List Nat} (hb : Bytes 16 b) : ∀ n, Bytes 16 (decTo k b n)
  | 0 => hb
  | 1 => iss_bytes _
  | _ + 2 => iss_bytes _
theorem dec_bytes {k : Nat → List Nat} (hk : ∀ n, Bytes 16 (k n)) {b : List Nat} (hb : Bytes 16 b) : Bytes 16 (dec k b) := ax_bytes (decTo_bytes hb 14) (hk 0)
theorem dec_steps {k : Nat → List Nat} (hk : ∀ n, Bytes 16 (k n)) {s : List Nat} (hs : Bytes 16 s) : ∀ n, n ≤ 13 → decTo k (enc k s) (n + 1) = encTo k s (13 - n)
  | 0, _ => by
    show iss (ax (ax (ss (encTo k s 13)) (k 14)) (k 14)) = encTo k s 13
    rw [ax_ax (ss_bytes _), iss_ss (encTo_bytes hk hs 13)]
  | n + 1, h => by
    show iss (imx (ax (decTo k (enc k s) (n + 1)) (k (13 - n)))) = _
    rw [dec_steps hk hs n (by omega)]
    obtain ⟨m, hm⟩ : ∃ m, 13 - n = m + 1 := ⟨12 - n, by omega⟩
    rw [hm, show 13 - (n + 1) = m by omega]
    show iss (imx (ax (ax (mx (ss (encTo k s m))) (k (m + 1))) (k (m + 1)))) = _
    rw [ax_ax (mx_bytes (ss_bytes _)), imx_mx (ss_bytes _), iss_ss (encTo_bytes hk hs m)]
theorem dec_enc {k : Nat → List Nat} (hk : ∀ n, Bytes 16 (k n)) {s : List Nat} (hs : Bytes 16 s) : dec k (enc k s) = s := by
  unfold dec
  rw [dec_steps hk hs 13 (by omega)]
  exact ax_ax hs
theorem enc_steps {k : Nat → List Nat} (hk : ∀ n, Bytes 16 (k n)) {b : List Nat} (hb : Bytes 16 b) : ∀ n, n ≤ 13 → encTo k (dec k b) n = decTo k b (14 - n)
  | 0, _ => ax_ax (decTo_bytes hb 14)
  | n + 1, h => by
    show ax (mx (ss (encTo k (dec k b) n))) (k (n + 1)) = _
    rw [enc_steps hk hb n (by omega)]
    obtain ⟨m, hm⟩ : ∃ m, 14 - n = m + 2 := ⟨12 - n, by omega⟩
    rw [hm, show 14 - (n + 1) = m + 1 by omega]
    show ax (mx (ss (iss (imx (ax (decTo k b (m + 1)) (k (13 - m))))))) (k (n + 1)) = _
    rw [ss_iss (imx_bytes _), mx_imx (ax_bytes (decTo_bytes hb _) (hk _)), show 13 - m = n + 1 by omega, ax_ax (decTo_bytes hb _)]
theorem enc_dec {k : Nat → List Nat} (hk : ∀ n, Bytes 16 (k n)) {b : List Nat} (hb : Bytes 16 b) : enc k (dec k b) = b := by
  unfold enc
  rw [enc_steps hk hb 13 (by omega)]
  show ax (ss (iss (ax b (k 14)))) (k 14) = b
  rw [ss_iss (ax_bytes hb (hk 14)), ax_ax hb]
theorem enc_inj {k : Nat → List Nat} (hk : ∀ n, Bytes 16 (k n)) {a b : List Nat} (ha : Bytes 16 a) (hb : Bytes 16 b) : enc k a = enc k b ↔ a = b := by
  refine ⟨fun h => ?_, fun h => by rw [h]⟩
  rw [← dec_enc hk ha, ← dec_enc hk hb, h]
end AM
end Go.Proofs.YtjemajenfkjelaaDoor
