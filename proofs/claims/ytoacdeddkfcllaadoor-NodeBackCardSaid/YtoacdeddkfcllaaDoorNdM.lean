/- Nodes on numbers: what is laid, what is read, which refs may be. Work ahead for stage 15. Own work. -/
import Derived.Test.YtoacdeddkfcllaaDoorRtOnes
import Derived.Test.YtoacdeddkfcllaaDoorBackMath
import Derived.Test.YtoacdeddkfcllaaDoorRtEq
namespace Go.Proofs.YtoacdeddkfcllaaDoor
open Go.ChangeShapes Go.WideShapes Go.ChangeAt Go.RowKit
open RT
namespace ND
/-- A node: eight refs. -/
structure Nok (ns : List Pg) : Prop where
  len : ns.length = 8
  ok : ∀ p ∈ ns, Pok p
def zp : Pg := ⟨0, List.replicate 32 0⟩
theorem zp_ok : Pok zp := ⟨by decide, bytes_zero 32⟩
def zn : List Pg := List.replicate 8 zp
theorem zn_ok : Nok zn := ⟨by unfold zn; simp, fun p hp => by rw [List.eq_of_mem_replicate hp]; exact zp_ok⟩
theorem pcs_len8 {ns : List Pg} (h : Nok ns) : (pcs ns).length = 264 := by rw [pcs_len h.ok, h.len]
theorem ones_len8 {ns : List Pg} (h : Nok ns) : (ones ns).length = 288 := by rw [ones_len h.ok, h.len]
/-- May a ref be? May all? Is there none below? -/
def mayP (p : Pg) : Bool := decide (p.at_ ≠ 0) || pgEq p zp
def may (ns : List Pg) : Bool := ns.all mayP
def empty (ns : List Pg) : Bool := ns.all fun p => decide (p.at_ = 0)
theorem mayP_iff {p : Pg} : mayP p = true ↔ p.at_ ≠ 0 ∨ p = zp := by
  unfold mayP
  rw [Bool.or_eq_true, decide_eq_true_eq, pgEq_iff]
theorem may_iff {ns : List Pg} : may ns = true ↔ ∀ p ∈ ns, p.at_ ≠ 0 ∨ p = zp := by
  unfold may
  rw [List.all_eq_true]
  exact ⟨fun h p hp => mayP_iff.1 (h p hp), fun h p hp => mayP_iff.2 (h p hp)⟩
theorem empty_iff {ns : List Pg} : empty ns = true ↔ ∀ p ∈ ns, p.at_ = 0 := by
  unfold empty
  rw [List.all_eq_true]
  exact ⟨fun h p hp => of_decide_eq_true (h p hp), fun h p hp => decide_eq_true (h p hp)⟩
/-- What is read. -/
def pAt (b : List Nat) (i : Nat) : Pg := ⟨num ((b.drop (i * 36)).take 4), (b.drop (4 + i * 36)).take 32⟩
def reads (b : List Nat) : List Pg := (List.range 8).map (pAt b)
theorem cutN {b : List Nat} {n : Nat} (h : Bytes n b) (o m : Nat) (hm : o + m ≤ n) : Bytes m ((b.drop o).take m) :=
  ⟨by rw [List.length_take, List.length_drop, h.1]; omega, fun j => gb_take_byte _ _ (fun k => by rw [gb_drop]; exact h.2 _) j⟩
theorem pAt_ok {b : List Nat} (h : Bytes 288 b) {i : Nat} (hi : i < 8) : Pok (pAt b i) := by
  refine ⟨?_, cutN h (4 + i * 36) 32 (by omega)⟩
  have c := cutN h (i * 36) 4 (by omega)
  exact num_le _ c.2 4 (by rw [c.1]; exact Nat.le_refl _)
theorem reads_ok {b : List Nat} (h : Bytes 288 b) : Nok (reads b) := ⟨by unfold reads; simp, fun p hp => by
  unfold reads at hp
  obtain ⟨i, hi, rfl⟩ := List.mem_map.1 hp
  exact pAt_ok h (List.mem_range.1 hi)⟩
def okN (b : List Nat) : Bool := decide (b.length = 288) && may (reads b)
def got (b : List Nat) : List Pg := if okN b = true then reads b else zn
def gerr (b : List Nat) : Int := if okN b = true then 0 else 4
theorem got_yes {b : List Nat} (h : okN b = true) : got b = reads b ∧ gerr b = 0 := by unfold got gerr; rw [if_pos h, if_pos h]; exact ⟨rfl, rfl⟩
theorem got_no {b : List Nat} (h : okN b = false) : got b = zn ∧ gerr b = 4 := by unfold got gerr; rw [h]; exact ⟨rfl, rfl⟩
theorem got_ok {b : List Nat} (h : ∀ k, gb b k < 256) : Nok (got b) := by
  unfold got
  split
  · rename_i q
    unfold okN at q
    rw [Bool.and_eq_true, decide_eq_true_iff] at q
    exact reads_ok ⟨q.1, h⟩
  · exact zn_ok
/-- A node that is laid is read as it was. -/
theorem reads_lay {ns : List Pg} (h : Nok ns) : reads (ones ns) = ns := by
  unfold reads
  apply List.ext_getElem (by simp [h.len])
  intro i h1 h2
  rw [List.getElem_map, List.getElem_range]
  obtain ⟨Y, hY⟩ := ones_drop ns h.ok [] i h2
  rw [List.append_nil] at hY
  have hp := h.ok _ (List.getElem_mem h2)
  have p2 : (ones ns).drop (4 + i * 36) = ns[i].sum ++ Y := by
    rw [Nat.add_comm, ← List.drop_drop, hY]
    have q := drop_at (be ns[i].at_ 4) (ns[i].sum ++ Y) 4 0 (by rw [be_len])
    rw [List.drop_zero] at q; exact q
  unfold pAt
  rw [hY, p2, List.take_left' (be_len _ _), List.take_left' hp.2.1, num_be 4 _ hp.1 (by decide)]
theorem got_lay {ns : List Pg} (h : Nok ns) : (may ns = true → got (ones ns) = ns ∧ gerr (ones ns) = 0) ∧ (may ns = false → got (ones ns) = zn ∧ gerr (ones ns) = 4) := by
  constructor
  · intro hm
    have e : okN (ones ns) = true := by unfold okN; rw [reads_lay h, hm, decide_eq_true (ones_len8 h)]; rfl
    have q := got_yes e
    rw [reads_lay h] at q; exact q
  · intro hm
    exact got_no (by unfold okN; rw [reads_lay h, hm]; simp)
/-- What is read of so many bytes is laid as these. -/
theorem be_num4 {l : List Nat} (h : Bytes 4 l) : be (num l) 4 = l := by
  match l, h.1 with
  | [a, b, c, d], _ =>
    have ha := h.2 0
    have hb := h.2 1
    have hc := h.2 2
    have hd := h.2 3
    have ha : a < 256 := ha
    have hb : b < 256 := hb
    have hc : c < 256 := hc
    have hd : d < 256 := hd
    have e : num [a, b, c, d] = ((a * 256 + b) * 256 + c) * 256 + d := by
      show numStep (numStep (numStep (numStep 0 a) b) c) d = _
      unfold numStep; omega
    rw [e, be_succ, be_succ, be_succ, be_succ, be_zero]
    simp only [List.nil_append, List.cons_append]
    congr 1
    · omega
    · congr 1
      · omega
      · congr 1
        · omega
        · congr 1; omega
theorem ones_reads {b : List Nat} (h : Bytes 288 b) : ones (reads b) = b := by
  have key : ∀ n, n ≤ 8 → ones ((List.range n).map (pAt b)) = b.take (n * 36) := by
    intro n
    induction n with
    | zero => intro _; rw [Nat.zero_mul, List.take_zero]; rfl
    | succ n ih =>
      intro hn
      rw [List.range_succ, List.map_append, ones_app, ih (by omega)]
      have c4 := cutN h (n * 36) 4 (by omega)
      have e1 : ones ([n].map (pAt b)) = be (pAt b n).at_ 4 ++ (pAt b n).sum := by show ones [pAt b n] = _; unfold ones one; simp
      have e2 : be (pAt b n).at_ 4 = (b.drop (n * 36)).take 4 := be_num4 c4
      have e3 : (pAt b n).sum = ((b.drop (n * 36)).drop 4).take 32 := by
        show (b.drop (4 + n * 36)).take 32 = _
        rw [List.drop_drop, Nat.add_comm]
      have e4 : (b.drop (n * 36)).take 4 ++ ((b.drop (n * 36)).drop 4).take 32 = (b.drop (n * 36)).take 36 := by
        have q := List.take_add (l := b.drop (n * 36)) (i := 4) (j := 32)
        exact q.symm
      rw [e1, e2, e3, e4, show (n + 1) * 36 = n * 36 + 36 by omega, List.take_add]
  have q := key 8 (Nat.le_refl _)
  rw [List.take_of_length_le (by rw [h.1]; decide)] at q
  exact q
/-- The cells of the k-th ref. -/
theorem pcs_at {ns : List Pg} (h : ∀ p ∈ ns, Pok p) {k : Nat} (hk : k < ns.length) : (pcs ns)[k * 33]? = some (.int .u32 (ns[k].at_ : Int)) := by
  have q := pcs_get h hk (i := 0) (by decide)
  rw [Nat.add_zero] at q
  rw [q]; rfl
theorem pcs_sum {ns : List Pg} (h : ∀ p ∈ ns, Pok p) {k : Nat} (hk : k < ns.length) : ((pcs ns).drop (k * 33 + 1)).take 32 = row8 ns[k].sum := by
  have hs := (h _ (List.getElem_mem hk)).2.1
  apply List.ext_getElem?
  intro i
  rw [List.getElem?_take, List.getElem?_drop]
  by_cases hi : i < 32
  · rw [if_pos hi, Nat.add_assoc, pcs_get h hk (by omega)]
    unfold pc
    rw [Nat.add_comm, List.getElem?_cons_succ]
  · rw [if_neg hi, List.getElem?_eq_none (by rw [row8_len, hs]; omega)]
end ND
end Go.Proofs.YtoacdeddkfcllaaDoor
