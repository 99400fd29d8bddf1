/- Roots on numbers: their cells, what is laid of them, what is read. Own work. -/
import Derived.Test.YtoacdeddkfcllaaDoorMem
import Derived.Test.YtoacdeddkfcllaaDoorPutX
import Derived.Test.YtoacdeddkfcllaaDoorRtRows
import Derived.Test.YtoacdeddkfcllaaDoorRdrX
import Derived.Test.YtoacdeddkfcllaaDoorHmacA
import Derived.Test.YtoacdeddkfcllaaDoorEqX
namespace Go.Proofs.YtoacdeddkfcllaaDoor
open Go.ChangeShapes Go.WideShapes Go.ChangeAt Go.RowKit
namespace RT
/-- A page's ref. -/
structure Pg where
  at_ : Nat
  sum : List Nat
/-- A root. -/
structure Rt where
  ver : Nat
  sup : List Nat
  area : Int
  keys : List Nat
  len : Int
  pages : List Pg
/-- The cells of a ref, of refs, of a root whose refs stand behind v. -/
def pc (p : Pg) : List Value := .int .u32 (p.at_ : Int) :: row8 p.sum
def pcs (ps : List Pg) : List Value := (ps.map pc).flatten
def rtc (r : Rt) (v : Value) : List Value := .int .u64 (r.ver : Int) :: (row8 r.sup ++ (.int .i64 r.area :: (row8 r.keys ++ [.int .i64 r.len, v])))
def Pok (p : Pg) : Prop := p.at_ < 4294967296 ∧ Bytes 32 p.sum
structure Ok (r : Rt) : Prop where
  ver : r.ver < 18446744073709551616
  sup : Bytes 32 r.sup
  area : -9223372036854775808 ≤ r.area ∧ r.area ≤ 9223372036854775807
  keys : Bytes 32 r.keys
  len : -9223372036854775808 ≤ r.len ∧ r.len ≤ 9223372036854775807
  pages : ∀ p ∈ r.pages, Pok p
theorem pc_len {p : Pg} (h : Pok p) : (pc p).length = 33 := by unfold pc; rw [List.length_cons, row8_len, h.2.1]
theorem pcs_len {ps : List Pg} (h : ∀ p ∈ ps, Pok p) : (pcs ps).length = ps.length * 33 := by
  unfold pcs
  induction ps with
  | nil => rfl
  | cons a r ih =>
    rw [List.map_cons, List.flatten_cons, List.length_append, pc_len (h a (by simp)), ih (fun p hp => h p (by simp [hp])), List.length_cons]
    omega
theorem pcs_app (ps qs : List Pg) : pcs (ps ++ qs) = pcs ps ++ pcs qs := by unfold pcs; rw [List.map_append, List.flatten_append]
theorem pcs_one (p : Pg) : pcs [p] = pc p := by unfold pcs; simp
/-- The i-th cell of the j-th ref. -/
theorem pcs_get {ps : List Pg} (h : ∀ p ∈ ps, Pok p) {j : Nat} (hj : j < ps.length) {i : Nat} (hi : i < 33) : (pcs ps)[j * 33 + i]? = (pc ps[j])[i]? := by
  induction ps generalizing j with
  | nil => simp at hj
  | cons a r ih =>
    have ha := pc_len (h a (by simp))
    have e : pcs (a :: r) = pc a ++ pcs r := by unfold pcs; rw [List.map_cons, List.flatten_cons]
    rw [e]
    cases j with
    | zero =>
      rw [Nat.zero_mul, Nat.zero_add, List.getElem?_append_left (by omega)]
      rfl
    | succ j =>
      rw [List.getElem?_append_right (by omega), ha, show (j + 1) * 33 + i - 33 = j * 33 + i by omega]
      exact ih (fun p hp => h p (by simp [hp])) (by simpa using hj)
theorem pcs_one' (ps : List Pg) : ∀ u ∈ pcs ps, u.oneCell' = true := fun u hu => by
  unfold pcs at hu
  obtain ⟨l, hl, hul⟩ := List.mem_flatten.1 hu
  obtain ⟨p, _, rfl⟩ := List.mem_map.1 hl
  unfold pc at hul
  rcases List.mem_cons.1 hul with rfl | q
  · rfl
  · exact row8_one' _ u q
theorem rtc_len {r : Rt} (h : Ok r) (v : Value) : (rtc r v).length = 68 := by
  unfold rtc
  simp only [List.length_cons, List.length_append, row8_len, h.sup.1, h.keys.1, List.length_nil]
theorem rtc_ver (r : Rt) (v : Value) : (rtc r v)[0]? = some (.int .u64 (r.ver : Int)) := rfl
theorem rtc_sup {r : Rt} (h : Ok r) (v : Value) : ((rtc r v).drop 1).take 32 = row8 r.sup := by
  unfold rtc
  rw [List.drop_succ_cons, List.drop_zero, List.take_left' (by rw [row8_len, h.sup.1])]
theorem rtc_drop33 {r : Rt} (h : Ok r) (v : Value) : (rtc r v).drop 33 = .int .i64 r.area :: (row8 r.keys ++ [.int .i64 r.len, v]) := by
  unfold rtc
  rw [List.drop_succ_cons, List.drop_left' (by rw [row8_len, h.sup.1])]
theorem rtc_drop66 {r : Rt} (h : Ok r) (v : Value) : (rtc r v).drop 66 = [.int .i64 r.len, v] := by
  rw [show 66 = 33 + 33 from rfl, ← List.drop_drop, rtc_drop33 h, List.drop_succ_cons, List.drop_left' (by rw [row8_len, h.keys.1])]
theorem rtc_area {r : Rt} (h : Ok r) (v : Value) : (rtc r v)[33]? = some (.int .i64 r.area) := by
  have e := congrArg (·[0]?) (rtc_drop33 h v)
  simpa using e
theorem rtc_keys {r : Rt} (h : Ok r) (v : Value) : ((rtc r v).drop 34).take 32 = row8 r.keys := by
  rw [show 34 = 33 + 1 from rfl, ← List.drop_drop, rtc_drop33 h, List.drop_succ_cons, List.drop_zero, List.take_left' (by rw [row8_len, h.keys.1])]
theorem rtc_lenc {r : Rt} (h : Ok r) (v : Value) : (rtc r v)[66]? = some (.int .i64 r.len) := by
  have e := congrArg (·[0]?) (rtc_drop66 h v)
  simpa using e
theorem rtc_pages {r : Rt} (h : Ok r) (v : Value) : (rtc r v)[67]? = some v := by
  have e := congrArg (·[1]?) (rtc_drop66 h v)
  simpa using e
/-- May a root be? -/
def may (r : Rt) : Bool := decide (r.area = 0 ∨ r.area = 1) && (decide (0 ≤ r.len) && (decide (r.len ≤ 8192) && (decide (r.pages.length ≤ 8) && r.pages.all (·.at_ != 0))))
theorem may_iff {r : Rt} : may r = true ↔ (r.area = 0 ∨ r.area = 1) ∧ 0 ≤ r.len ∧ r.len ≤ 8192 ∧ r.pages.length ≤ 8 ∧ ∀ p ∈ r.pages, p.at_ ≠ 0 := by
  unfold may
  simp only [Bool.and_eq_true, decide_eq_true_eq, List.all_eq_true, bne_iff_ne]
/-- What is laid. -/
def one (p : Pg) : List Nat := be p.at_ 4 ++ p.sum
def ones (ps : List Pg) : List Nat := (ps.map one).flatten
def pre (r : Rt) : List Nat := [82, 79, 79, 84] ++ be r.ver 8 ++ r.sup ++ [r.area.toNat] ++ r.keys ++ be r.len.toNat 2 ++ [r.pages.length]
def raw (r : Rt) : List Nat := pre r ++ ones r.pages
def body (r : Rt) : List Nat := padTo (raw r) 480
def lay (r : Rt) (key : List Nat) : List Nat := body r ++ SM.mac key (body r)
def put (r : Rt) (key : List Nat) : List Nat := if may r = true then lay r key else []
def perr (r : Rt) : Int := if may r = true then 0 else 2
theorem one_len {p : Pg} (h : Pok p) : (one p).length = 36 := by unfold one; rw [List.length_append, be_len, h.2.1]
theorem ones_len {ps : List Pg} (h : ∀ p ∈ ps, Pok p) : (ones ps).length = ps.length * 36 := by
  unfold ones
  induction ps with
  | nil => rfl
  | cons a r ih =>
    rw [List.map_cons, List.flatten_cons, List.length_append, one_len (h a (by simp)), ih (fun p hp => h p (by simp [hp])), List.length_cons]
    omega
theorem ones_app (ps qs : List Pg) : ones (ps ++ qs) = ones ps ++ ones qs := by unfold ones; rw [List.map_append, List.flatten_append]
theorem ones_take {ps : List Pg} {k : Nat} (hk : k < ps.length) : ones (ps.take (k + 1)) = ones (ps.take k) ++ one ps[k] := by
  rw [List.take_succ_eq_append_getElem hk, ones_app]
  congr 1
  unfold ones; simp
theorem pre_len {r : Rt} (h : Ok r) : (pre r).length = 80 := by
  unfold pre
  simp only [List.length_append, be_len, h.sup.1, h.keys.1, List.length_cons, List.length_nil]
theorem raw_len {r : Rt} (h : Ok r) : (raw r).length = 80 + r.pages.length * 36 := by unfold raw; rw [List.length_append, pre_len h, ones_len h.pages]
theorem body_len {r : Rt} (h : Ok r) (hm : r.pages.length ≤ 8) : (body r).length = 480 := by unfold body; rw [padTo_len, raw_len h]; omega
theorem mac_len (key b : List Nat) : (SM.mac key b).length = 32 := SM.sha_length _
theorem lay_len {r : Rt} (h : Ok r) (hm : r.pages.length ≤ 8) (key : List Nat) : (lay r key).length = 512 := by unfold lay; rw [List.length_append, body_len h hm, mac_len]
theorem put_yes {r : Rt} (h : may r = true) (key : List Nat) : put r key = lay r key ∧ perr r = 0 := by unfold put perr; rw [if_pos h, if_pos h]; exact ⟨rfl, rfl⟩
theorem put_no {r : Rt} (h : may r = false) (key : List Nat) : put r key = [] ∧ perr r = 2 := by unfold put perr; rw [h]; exact ⟨rfl, rfl⟩
/-- What is read. -/
def pgAt (b : List Nat) (i : Nat) : Pg := ⟨num ((b.drop (80 + i * 36)).take 4), (b.drop (84 + i * 36)).take 32⟩
def reads (b : List Nat) : Rt := ⟨num ((b.drop 4).take 8), (b.drop 12).take 32, (gb b 44 : Nat), (b.drop 45).take 32, (num ((b.drop 77).take 2) : Nat), (List.range (min (gb b 79) 9)).map (pgAt b)⟩
def zero : Rt := ⟨0, List.replicate 32 0, 0, List.replicate 32 0, 0, []⟩
theorem zero_ok : Ok zero := ⟨by decide, bytes_zero 32, by decide, bytes_zero 32, by decide, fun p hp => by cases hp⟩
end RT
end Go.Proofs.YtoacdeddkfcllaaDoor
