/- Cells of a node that is read ref by ref, byte by byte. Work ahead for stage 15. Own work. -/
import Derived.Test.YtoacdeddkfcllaaDoorNdM
import Derived.Test.YtoacdeddkfcllaaDoorRtEq
namespace Go.Proofs.YtoacdeddkfcllaaDoor
open Go.ChangeShapes Go.WideShapes Go.ChangeAt Go.RowKit
open RT
namespace ND
theorem or4 (a b c d : Nat) (hb : b < 256) (hc : c < 256) (hd : d < 256) : ((a * 16777216 ||| b * 65536) ||| c * 256) ||| d = ((a * 256 + b) * 256 + c) * 256 + d := by
  have h1 := Nat.two_pow_add_eq_or_of_lt (i := 24) (b := b * 65536) (by omega) a
  have h2 := Nat.two_pow_add_eq_or_of_lt (i := 16) (b := c * 256) (by omega) (a * 256 + b)
  have h3 := Nat.two_pow_add_eq_or_of_lt (i := 8) (b := d) (by omega) ((a * 256 + b) * 256 + c)
  rw [show a * 16777216 = 2 ^ 24 * a by omega, ← h1, show 2 ^ 24 * a + b * 65536 = 2 ^ 16 * (a * 256 + b) by omega, ← h2, show 2 ^ 16 * (a * 256 + b) + c * 256 = 2 ^ 8 * ((a * 256 + b) * 256 + c) by omega, ← h3]
  omega
/-- A ref's number out of its four bytes. -/
theorem at_bits {b : List Nat} (h : Bytes 288 b) {i : Nat} (hi : i < 8) : ((gb b (i * 36) * 16777216 ||| gb b (i * 36 + 1) * 65536) ||| gb b (i * 36 + 2) * 256) ||| gb b (i * 36 + 3) = (pAt b i).at_ := by
  rw [or4 _ _ _ _ (h.2 _) (h.2 _) (h.2 _)]
  have c := cutN h (i * 36) 4 (by omega)
  have e : ∀ k, k < 4 → gb b (i * 36 + k) = gb ((b.drop (i * 36)).take 4) k := fun k hk => by rw [gb_take _ _ _ hk, gb_drop]
  have e0 := e 0 (by decide)
  rw [Nat.add_zero] at e0
  rw [e0, e 1 (by decide), e 2 (by decide), e 3 (by decide)]
  show _ = num ((b.drop (i * 36)).take 4)
  generalize (b.drop (i * 36)).take 4 = l at c
  match l, c.1, c.2 with
  | [x, y, z, u], _, hb =>
    have hx : x < 256 := hb 0
    have hy : y < 256 := hb 1
    have hz : z < 256 := hb 2
    have hu : u < 256 := hb 3
    show ((x * 256 + y) * 256 + z) * 256 + u = numStep (numStep (numStep (numStep 0 x) y) z) u
    unfold numStep; omega
/-- The ref in the making: j bytes of its sum are read. -/
def part (n : Nat) (S : List Nat) (j : Nat) : Pg := ⟨n, S.take j ++ List.replicate (32 - j) 0⟩
def rows (b : List Nat) (i : Nat) (p : Pg) : List Pg := (List.range i).map (pAt b) ++ (p :: List.replicate (7 - i) zp)
theorem pcs_cons (p : Pg) (ps : List Pg) : pcs (p :: ps) = pc p ++ pcs ps := by unfold pcs; rw [List.map_cons, List.flatten_cons]
theorem firsts_len {b : List Nat} (h : Bytes 288 b) {i : Nat} (hi : i ≤ 8) : (pcs ((List.range i).map (pAt b))).length = i * 33 := by
  rw [pcs_len (fun p hp => by
    obtain ⟨j, hj, rfl⟩ := List.mem_map.1 hp
    exact pAt_ok h (by have := List.mem_range.1 hj; omega))]
  simp
theorem rows_ok {b : List Nat} (h : Bytes 288 b) {i : Nat} (hi : i < 8) {p : Pg} (hp : Pok p) : ∀ q ∈ rows b i p, Pok q := fun q hq => by
  unfold rows at hq
  rcases List.mem_append.1 hq with q1 | q1
  · obtain ⟨j, hj, rfl⟩ := List.mem_map.1 q1
    exact pAt_ok h (by have := List.mem_range.1 hj; omega)
  · rcases List.mem_cons.1 q1 with rfl | q2
    · exact hp
    · rw [List.eq_of_mem_replicate q2]; exact zp_ok
theorem rows_len {b : List Nat} {i : Nat} (hi : i < 8) {p : Pg} : (rows b i p).length = 8 := by
  unfold rows; simp; omega
theorem rows_cell {b : List Nat} (h : Bytes 288 b) {i : Nat} (hi : i < 8) {p : Pg} (hp : Pok p) {j : Nat} (hj : j < 33) : (pcs (rows b i p))[i * 33 + j]? = (pc p)[j]? := by
  have hl : i < (rows b i p).length := by rw [rows_len hi]; exact hi
  rw [pcs_get (rows_ok h hi hp) hl hj]
  have q : (rows b i p)[i]? = some p := by
    unfold rows
    rw [List.getElem?_append_right (by simp)]
    simp
  rw [Option.some.inj ((List.getElem?_eq_getElem hl).symm.trans q)]
theorem rows_set {b : List Nat} (h : Bytes 288 b) {i : Nat} (hi : i < 8) {p : Pg} (hp : Pok p) {j : Nat} (hj : j < 33) (v : Value) {q : Pg} (hq : (pc p).set j v = pc q) : (pcs (rows b i p)).set (i * 33 + j) v = pcs (rows b i q) := by
  unfold rows
  rw [pcs_app, pcs_app, pcs_cons, pcs_cons, List.set_append_right _ _ (by rw [firsts_len h (by omega)]; omega), firsts_len h (by omega), show i * 33 + j - i * 33 = j by omega, List.set_append_left _ _ (by rw [pc_len hp]; exact hj), hq]
theorem part_set {n : Nat} {S : List Nat} (hS : S.length = 32) {j : Nat} (hj : j < 32) : (pc (part n S j)).set (1 + j) (.int .u8 (gb S j : Int)) = pc (part n S (j + 1)) := by
  unfold pc part
  rw [Nat.add_comm, List.set_cons_succ]
  congr 1
  have e : (S.take j ++ List.replicate (32 - j) 0).set j (gb S j) = S.take (j + 1) ++ List.replicate (32 - (j + 1)) 0 := by
    rw [show 32 - j = (32 - (j + 1)) + 1 by omega, List.replicate_succ, List.set_append_right _ _ (by rw [List.length_take]; omega), List.length_take, show j - min j S.length = 0 by omega, List.set_cons_zero, List.take_add_one]
    have e2 : S[j]? = some (gb S j) := by unfold gb; rw [List.getD_eq_getElem?_getD, List.getElem?_eq_getElem (by omega)]; rfl
    rw [e2]; simp
  show (row8 _).set j _ = row8 _
  rw [← e]
  unfold row8
  rw [List.map_set]
theorem part_ok {n : Nat} (hn : n < 4294967296) {S : List Nat} (hS : Bytes 32 S) {j : Nat} (hj : j ≤ 32) : Pok (part n S j) := by
  refine ⟨hn, ⟨by show (S.take j ++ List.replicate (32 - j) 0).length = 32; rw [List.length_append, List.length_take, hS.1, List.length_replicate]; omega, fun k => ?_⟩⟩
  exact gb_app _ _ (gb_take_byte _ _ hS.2) (bytes_zero _).2 k
theorem part_full (b : List Nat) (i : Nat) (hS : ((b.drop (4 + i * 36)).take 32).length = 32) : part (pAt b i).at_ ((b.drop (4 + i * 36)).take 32) 32 = pAt b i := by
  unfold part
  rw [List.take_of_length_le (by rw [hS]; exact Nat.le_refl _)]
  show (⟨_, _ ++ []⟩ : Pg) = _
  rw [List.append_nil]; rfl
theorem rows_next (b : List Nat) {i : Nat} (hi : i < 7) : rows b i (pAt b i) = rows b (i + 1) zp := by
  unfold rows
  rw [List.range_succ, List.map_append, List.append_assoc, show 7 - i = (7 - (i + 1)) + 1 by omega, List.replicate_succ]
  rfl
theorem rows_last (b : List Nat) : rows b 7 (pAt b 7) = reads b := by
  unfold rows reads
  rw [show (8 : Nat) = 7 + 1 from rfl, List.range_succ, List.map_append]
  rfl
theorem rows_zero (b : List Nat) : rows b 0 zp = zn := rfl
/-- The cells before the i-th round. -/
def rws (b : List Nat) (i : Nat) : List Pg := if i < 8 then rows b i zp else reads b
theorem rws_next (b : List Nat) {i : Nat} (hi : i < 8) : rows b i (pAt b i) = rws b (i + 1) := by
  unfold rws
  by_cases h : i + 1 < 8
  · rw [if_pos h]; exact rows_next b (by omega)
  · obtain rfl : i = 7 := by omega
    rw [if_neg (by decide)]; exact rows_last b
theorem okN_bad {b : List Nat} {k : Nat} (hk : k < 8) (h : mayP (pAt b k) = false) : okN b = false := by
  cases q : okN b with
  | false => rfl
  | true =>
    unfold okN may at q
    rw [Bool.and_eq_true, List.all_eq_true] at q
    have := q.2 (pAt b k) (by unfold reads; exact List.mem_map.2 ⟨k, List.mem_range.2 hk, rfl⟩)
    rw [h] at this; cases this
theorem okN_good {b : List Nat} (hl : b.length = 288) (hm : ∀ j, j < 8 → mayP (pAt b j) = true) : okN b = true := by
  unfold okN may
  rw [Bool.and_eq_true, List.all_eq_true]
  refine ⟨decide_eq_true hl, fun p hp => ?_⟩
  unfold reads at hp
  obtain ⟨j, hj, rfl⟩ := List.mem_map.1 hp
  exact hm j (List.mem_range.1 hj)
theorem okN_short {b : List Nat} (hl : b.length ≠ 288) : okN b = false := by
  unfold okN
  rw [decide_eq_false hl]; rfl
end ND
end Go.Proofs.YtoacdeddkfcllaaDoor
