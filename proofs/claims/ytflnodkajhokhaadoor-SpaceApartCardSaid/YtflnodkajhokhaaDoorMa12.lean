/- Texts of 6 subjects in one file: SpLB, SpTu, SpAp, LaidX, DoorWrap, DoorSpace. Own work. -/
import Derived.Test.YtflnodkajhokhaaDoorMa11
import Derived.Test.YtflnodkajhokhaaDoorRows
import Derived.LaidLaws
import Derived.LaidHandle
import Derived.Lay
import Derived.Test.YtflnodkajhokhaaDoorMa4
import Derived.Test.YtflnodkajhokhaaDoorMa6
import Derived.ProofKit
import Derived.LaidMore
import Derived.OpenShut
import Derived.Stop.Joined
import Derived.Lib.LaidTab
import Derived.LaidSub
section
namespace Go.Proofs.YtflnodkajhokhaaDoor
open Go.ChangeShapes Go.WideShapes Go.ChangeAt Go.RowKit
open RT XM AM SM
theorem Rd.kept0 {B : Nat} {A : Nat -> Prop} {w w' : World} {v : Value} {l : List Nat} (h : Rd w v l) (k : Kept B A w w') (hne : 0 < l.length -> ∀ g, v.ownBlock = some g -> g < B \/ A g) : Rd w' v l := by
  by_cases h0 : 0 < l.length
  . exact h.kept k (hne h0)
  . refine ⟨h.byte, h.fits, ?_⟩
    rcases h.form with q | ⟨ad, cap, e, hc, _⟩
    . exact .inl q
    . exact .inr ⟨ad, cap, e, hc, fun j hj => absurd hj (by omega)⟩
theorem Laid.own2 {B : Nat} {w w' : World} {s d : Nat} {p : SP.Sp} {A : Nat -> Prop} {S : DM.DS} (h : Laid B w s d p A S) (hb : Below w.heap.size w w') : ∃ A', Laid B w' s d p A' S /\ (∀ k, A k -> A' k) /\ (∀ k, w.heap.size <= k -> k < w'.heap.size -> A' k) :=
  ⟨_, h.own hb, fun _ q => .inl q, fun _ q1 q2 => .inr ⟨q1, q2⟩⟩
section
variable {B : Nat} {w : World} {s d : Nat} {p : SP.Sp} {A : Nat -> Prop} {S : DM.DS} {m : Nat}
theorem laid_putdata (hp : SP.Ok p) (h : Laid B w s d p A S) (f : SP.Few S m) (hm : m <= 1000) (n : Nat) (hn : n < 4294967296) (b : List Nat) (v : Value) (hv : Rd w v b) : Calls Tryd.prog 10 #[.pointer (some ⟨s, 0, none⟩), .int .u32 (n : Int), v] w fun e w' => e = .returned (.tuple #[.agg (pc (SP.putData p S n b).2.1).toArray, .int .i64 (SP.putData p S n b).2.2]) /\ Laid B w' s d p A (SP.putData p S n b).1 /\ Kept B A w w' :=
  (spcputdata_any hp B A S w h.dev (f.tame hm) h.spa h.tabs n hn b v hv).mono fun _ _ hh => ⟨hh.1, h.went hh.2.1 hh.2.2, hh.2.2⟩
theorem laid_putpage (hp : SP.Ok p) (h : Laid B w s d p A S) (f : SP.Few S m) (hm : m <= 1000) (n : Nat) (hn : n < 4294967296) (b : List Nat) (v : Value) (hv : Rd w v b) : Calls Tryd.prog 8 #[.pointer (some ⟨s, 0, none⟩), .int .u32 (n : Int), v] w fun e w' => e = .returned (.tuple #[.agg (pc (SP.putPage p S n b).2.1).toArray, .int .i64 (SP.putPage p S n b).2.2]) /\ Laid B w' s d p A (SP.putPage p S n b).1 /\ Kept B A w w' :=
  (spcputpage_any hp B A S w h.dev (f.tame hm) h.spa h.tabs n hn b v hv).mono fun _ _ hh => ⟨hh.1, h.went hh.2.1 hh.2.2, hh.2.2⟩
theorem laid_putnode (hp : SP.Ok p) (h : Laid B w s d p A S) (f : SP.Few S m) (hm : m <= 1000) (n : Nat) (hn : n < 4294967296) (x : List Pg) (hx : ND.Nok x) : Calls Tryd.prog 9 #[.pointer (some ⟨s, 0, none⟩), .int .u32 (n : Int), .agg (pcs x).toArray] w fun e w' => e = .returned (.tuple #[.agg (pc (SP.putNode p S n x).2.1).toArray, .int .i64 (SP.putNode p S n x).2.2]) /\ Laid B w' s d p A (SP.putNode p S n x).1 /\ Kept B A w w' :=
  (spcputnode_any hp B A S w h.dev (f.tame hm) h.spa h.tabs n hn x hx).mono fun _ _ hh => ⟨hh.1, h.went hh.2.1 hh.2.2, hh.2.2⟩
end
def SP.Roomy (p : SP.Sp) (S : DM.DS) : Prop := ∀ n, n <= 23 -> SP.Room p S n
theorem SP.Roomy.beg {p : SP.Sp} (h : p.per = 1) : SP.Roomy p SP.beg := fun _ hn => SP.beg_room h hn
theorem SP.putData_room {p : SP.Sp} (hp : SP.Ok p) {S : DM.DS} {n : Nat} (h : SP.Room p S n) (hn : n <= 65535) {b : List Nat} (hb : b.length = SP.size p) : SP.putData p S n b = ((SP.lay p S n (SP.sealed p n b)).1, ⟨n + 1, SP.leaf p (n + 1) (SP.sealed p n b)⟩, 0) := by
  unfold SP.putData
  rw [if_neg (by omega)]
  exact SP.put_room h (SP.sealed_len3 hp n hb) _
theorem SP.putPage_room {p : SP.Sp} {S : DM.DS} {n : Nat} (h : SP.Room p S n) {b : List Nat} (hb : b.length <= SP.size p) : SP.putPage p S n b = ((SP.lay p S n (padTo b (SP.size p))).1, ⟨n + 1, SP.psum (padTo b (SP.size p))⟩, 0) := by
  unfold SP.putPage
  rw [if_neg (by omega)]
  exact SP.put_room h (by rw [padTo_len]; omega) _
theorem SP.putNode_room {p : SP.Sp} (hp : SP.Ok p) {S : DM.DS} {n : Nat} (h : SP.Room p S n) {x : List Pg} (hx : ND.Nok x) : SP.putNode p S n x = ((SP.lay p S n (SP.nodeBytes p x)).1, ⟨n + 1, SP.nsum (SP.nodeBytes p x)⟩, 0) := SP.put_room h (SP.nodeBytes_len hp hx) _
end Go.Proofs.YtflnodkajhokhaaDoor
end

section
namespace Go.Proofs.YtflnodkajhokhaaDoor
open Go.ChangeShapes Go.WideShapes Go.ChangeAt Go.RowKit
open RT XM AM SM DM
namespace SP
structure Up (S : DS) : Prop where
  down : S.down = false
  len : S.seen.length = 16384
  most : S.most = 32768
theorem beg_up : Up beg := ⟨by rw [beg_eq]; rfl, by rw [beg_seen, List.length_replicate], beg_most⟩
theorem lay_up {p : Sp} {S : DS} (h : Up S) {n : Nat} (r : Room p S n) {b : List Nat} (hb : b.length = size p) : Up (lay p S n b).1 := by
  have e := lay_seen r hb
  have hs := r.fits
  refine ⟨?_, ?_, ?_⟩
  . rw [lay_room r hb]; exact h.down
  . rw [e.1, laid_same (by rw [hb]; exact hs)]; exact h.len
  . rw [lay_room r hb]; exact h.most
end SP
theorem laid_bytes {B : Nat} {w : World} {s d : Nat} {p : SP.Sp} {A : Nat -> Prop} {S : DM.DS} {m : Nat} (h : Laid B w s d p A S) (f : SP.Few S m) (hm : m <= 1000) : Calls Tryd.prog 5 #[.pointer (some ⟨d, 0, none⟩)] w fun e w' => ∃ y, e = .returned y /\ Own w' w.heap.size y S.seen /\ Below w.heap.size w w' :=
  dev_bytes B A d S w h.dev (f.tame hm)
theorem own_apartQ {w : World} {g base : Nat} {t : TypeId} {cs : List Value} {v : Value} {l : List Nat} (h : Blk w g t cs) (ho : Own w base v l) (ht : t ≠ 5) : v.ownBlock ≠ some g := fun e => by
  rcases ho.1.2 with ⟨q, _⟩ | ⟨b, cap, cur, q, _, hh, _⟩
  . rw [q] at e; cases e
  . rw [q] at e
    have e2 : b = g := Option.some.inj e
    rw [e2, show w.heap[g]? = _ from h] at hh
    injection hh with hh
    injection hh with _ h2 _
    exact ht h2
end Go.Proofs.YtflnodkajhokhaaDoor
end

section
namespace Go.Proofs.YtflnodkajhokhaaDoor
open Go.ChangeShapes Go.WideShapes Go.ChangeAt Go.RowKit
namespace SP
open DM
def ramp : List Nat := (List.range 16384).map (· % 251)
theorem ramp_len : ramp.length = 16384 := by unfold ramp; rw [List.length_map, List.length_range]
theorem ramp_at {k : Nat} (h : k < 16384) : gb ramp k = k % 251 := by
  unfold ramp gb
  rw [List.getD_eq_getElem?_getD, List.getElem?_map, List.getElem?_range h]
  rfl
theorem ramp_byte (k : Nat) : gb ramp k < 256 := by
  by_cases h : k < 16384
  . rw [ramp_at h]; omega
  . unfold gb
    rw [List.getD_eq_getElem?_getD, List.getElem?_eq_none (by rw [ramp_len]; omega)]
    decide
def rampTo (n : Nat) : List Nat := ramp.take n ++ List.replicate (16384 - n) 0
theorem rampTo_zero : rampTo 0 = List.replicate 16384 0 := by unfold rampTo; rw [List.take_zero, List.nil_append]
theorem rampTo_all : rampTo 16384 = ramp := by
  unfold rampTo
  rw [List.take_of_length_le (by rw [ramp_len]; exact Nat.le_refl _)]
  simp
theorem rampTo_len {n : Nat} (h : n <= 16384) : (rampTo n).length = 16384 := by
  unfold rampTo
  rw [List.length_append, List.length_take, List.length_replicate, ramp_len]
  omega
theorem rampTo_next {n : Nat} (h : n < 16384) : (rampTo n).set n (n % 251) = rampTo (n + 1) := by
  unfold rampTo
  have e : 16384 - n = (16384 - (n + 1)) + 1 := by omega
  have l : (ramp.take n).length = n := by rw [List.length_take, ramp_len]; omega
  rw [e, List.replicate_succ, List.set_append, if_neg (by rw [l]; omega), l, Nat.sub_self, List.set_cons_zero, List.take_add_one, List.getElem?_eq_getElem (by rw [ramp_len]; exact h)]
  have q : ramp[n]'(by rw [ramp_len]; exact h) = n % 251 := by
    have := ramp_at h
    unfold gb at this
    rw [List.getD_eq_getElem?_getD, List.getElem?_eq_getElem (by rw [ramp_len]; exact h)] at this
    exact this
  rw [q]
  simp
theorem load_full {l : List Nat} (hl : l.length = 16384) : DM.load beg l = { beg with seen := l, safe := l, loose := [] } := by
  unfold DM.load
  rw [if_neg (by rw [beg_most, hl]; omega)]
theorem up_full {S : DS} (u : Up S) {l : List Nat} (hl : l.length = 16384) : Up { S with seen := l, safe := l, loose := [] } := ⟨u.down, hl, u.most⟩
theorem told_full {S : DS} (h : S.told = false) (l : List Nat) : ({ S with seen := l, safe := l, loose := [] } : DS).told = false := h
theorem seen_full (S : DS) (l : List Nat) : ({ S with seen := l, safe := l, loose := [] } : DS).seen = l := rfl
theorem full_up {l : List Nat} (hl : l.length = 16384) : Up (DM.load beg l) /\ (DM.load beg l).seen = l := by
  rw [load_full hl]
  exact ⟨up_full beg_up hl, seen_full _ l⟩
theorem full_room {p : Sp} (hp : p.per = 1) {l : List Nat} (hl : l.length = 16384) {n : Nat} (hn : n <= 23) : Room p (DM.load beg l) n := by
  have r := Roomy.beg hp n hn
  have u := full_up hl
  refine ⟨u.1.down, ?_, by rw [u.1.len, u.1.most]; omega, r.num, ?_⟩
  . rw [load_full hl]; exact told_full r.told l
  . rw [u.1.len]; have := r.fits; rw [beg_up.len] at this; exact this
theorem lay_apart {p : Sp} (hp : p.per = 1) {S : DS} {n : Nat} (r : Room p S n) {b : List Nat} (hb : b.length = size p) {k : Nat} (hk : k < 4096 + 512 * n \/ 4608 + 512 * n <= k) : gb (lay p S n b).1.seen k = gb S.seen k := by
  have e : place p n = 4096 + 512 * n := by unfold place; rw [hp]; omega
  have e2 : size p = 512 := by unfold size; rw [hp]
  rw [(lay_seen r hb).1, laid_get, if_neg (by rw [e, hb, e2]; omega)]
end SP
end Go.Proofs.YtflnodkajhokhaaDoor
end

section
namespace Go.Proofs.YtflnodkajhokhaaDoor

theorem row_nodup (g m : Nat) : (MemPlace.row ⟨g, 0, none⟩ m).Nodup := by
  unfold MemPlace.row
  refine List.Pairwise.map _ (fun a b hab => ?_) List.nodup_range
  intro q
  injection q with _ q
  simp at q
  exact hab q
theorem laidRun_more {P : Program} {w : World} {fuel : Nat} {a : String} {bs : List String} {da : DataW Unit} {ds : List (String × DataW Unit)} {p q : List MemPlace} (h1 : DataW.laidRun P w fuel [a] = some ([(a, da)], p)) (h2 : DataW.laidRun P w fuel bs = some (ds, q)) :
    DataW.laidRun P w fuel (a :: bs) = some ((a, da) :: ds, p ++ q) := by
  rw [DataW.laidRun] at h1 ⊢
  rw [h2]
  cases e1 : P.globalNamed a with
  | none => rw [e1] at h1; simp at h1
  | some g =>
    rw [e1] at h1
    simp only at h1 ⊢
    cases e2 : (P.globals[g]?).map (·.type) with
    | none => rw [e2] at h1; simp at h1
    | some t =>
      cases e3 : w.var? P a with
      | none => rw [e2, e3] at h1; simp at h1
      | some cs =>
        rw [e2, e3] at h1
        simp only [DataW.laidRun] at h1 ⊢
        cases e4 : DataW.trod (fun _ => ()) P w 0 (fun _ => true) false fuel t cs.toList with
        | none => rw [e4] at h1; simp at h1
        | some x =>
          rw [e4] at h1
          simp only [Option.some.injEq, Prod.mk.injEq, List.append_nil, List.cons.injEq] at h1 ⊢
          obtain ⟨⟨⟨_, h3⟩, _⟩, h4⟩ := h1
          exact ⟨⟨⟨trivial, h3⟩, trivial⟩, by rw [h4]⟩
end Go.Proofs.YtflnodkajhokhaaDoor
namespace Go.Proofs.YtflnodkajhokhaaDoor
abbrev Tabled := (String × DataW Unit) × Nat × Nat
def Tabled.row (x : Tabled) : List MemPlace := MemPlace.row ⟨x.2.1, 0, none⟩ x.2.2
def Tabled.met (P : Program) (w : World) (fuel : Nat) (x : Tabled) : Prop := DataW.laidRun P w fuel [x.1.1] = some ([x.1], x.row) /\ laidRowsB P w x.row = true
theorem laidRun_many {P : Program} {w : World} {fuel : Nat} : ∀ L : List Tabled, (∀ x ∈ L, x.met P w fuel) -> DataW.laidRun P w fuel (L.map (·.1.1)) = some (L.map (·.1), (L.map Tabled.row).flatten)
  | [], _ => rfl
  | x :: L, h => by
    have h1 := (h x (List.mem_cons_self ..)).1
    have h2 := laidRun_many L fun y hy => h y (List.mem_cons_of_mem _ hy)
    exact laidRun_more (da := x.1.2) h1 h2
theorem apart_rows {x y : Tabled} (hne : x.2.1 ≠ y.2.1) : ∀ p ∈ x.row, ∀ q ∈ y.row, p ≠ q := fun p hp q hq e => by
  obtain ⟨i, _, rfl⟩ := MemPlace.mem_row.1 hp
  obtain ⟨j, _, rfl⟩ := MemPlace.mem_row.1 hq
  injection e with e _
  exact hne e
theorem nodup_rows : ∀ L : List Tabled, (L.map (·.2.1)).Nodup -> (L.map Tabled.row).flatten.Nodup
  | [], _ => List.nodup_nil
  | x :: L, h => by
    rw [List.map_cons, List.nodup_cons] at h
    rw [List.map_cons, List.flatten_cons]
    refine List.nodup_append.2 ⟨row_nodup _ _, nodup_rows L h.2, fun p hp q hq => ?_⟩
    obtain ⟨r, hr, hqr⟩ := List.mem_flatten.1 hq
    obtain ⟨y, hy, rfl⟩ := List.mem_map.1 hr
    exact apart_rows (x := x) (y := y) (fun e => h.1 (List.mem_map.2 ⟨y, hy, e.symm⟩)) p hp q hqr
theorem rows_many {P : Program} {w : World} {fuel : Nat} : ∀ L : List Tabled, (∀ x ∈ L, x.met P w fuel) -> laidRowsB P w (L.map Tabled.row).flatten = true
  | [], _ => rfl
  | x :: L, h => by
    have h1 := (h x (List.mem_cons_self ..)).2
    have h2 := rows_many L fun y hy => h y (List.mem_cons_of_mem _ hy)
    rw [List.map_cons, List.flatten_cons]
    unfold laidRowsB at h1 h2 ⊢
    rw [List.all_append, h1, h2]; rfl
theorem laidMet_many {P : Program} {w : World} {fuel : Nat} (L : List Tabled) (h : ∀ x ∈ L, x.met P w fuel) (hd : (L.map (·.2.1)).Nodup) : laidMet P (L.map (·.1)) w :=
  laidMet_of_run fuel (by rw [List.map_map]; exact laidRun_many L h) (decide_eq_true (nodup_rows L hd)) (rows_many L h)
end Go.Proofs.YtflnodkajhokhaaDoor
end

section
namespace Go.Proofs.YtflnodkajhokhaaDoor
open Go.ChangeShapes Go.WideShapes Go.ChangeAt Go.RowKit
theorem cells1_uint64 : Tryd.prog.cellsOf 66 = 1 := by kernel_rfl
theorem cells32_uint64 : Tryd.prog.cellsOf 147 = 32 := by kernel_rfl
def laidX : List (String × DataW Unit) := [("reliquary/aes.boxes", Rows.laid_reliquary_aes_boxes)]
theorem gX : Tryd.prog.globalNamed "reliquary/aes.boxes" = some 1 := by kernel_rfl
theorem tX : (Tryd.prog.globals[1]?).map (·.type) = some 147 := by kernel_rfl
theorem laid_tabX : (Rows.laid_reliquary_aes_boxes : DataW Unit) = Lib.tabData .u64 (AM.wtab.map fun n : Nat => (n : Int)) := by kernel_rfl
theorem lenX : AM.wtab.length = 32 := by kernel_rfl
theorem tabX_of_laid {W : World} (h : laidMetH Tryd.prog laidX W) : TabX W := by
  rw [MakeChecks.laidMetH_plain _ _ _ (by kernel_rfl)] at h
  unfold laidX at h
  rw [laid_tabX] at h
  have ht := Lib.tabIs_of_head gX tX Tryd.underlying147 Tryd.underlying66 cells1_uint64 cells32_uint64 h
  intro t htt
  have hc := ht.cell gX t (by rw [List.length_map, lenX]; exact htt)
  rw [hc]
  unfold gb
  rw [List.getD_eq_getElem?_getD, List.getD_eq_getElem?_getD, List.getElem?_map, List.getElem?_eq_getElem (by rw [lenX]; exact htt)]
  rfl
def tabledP : Tabled := (("reliquary/sha.constants", Rows.laid_reliquary_sha_constants), 0, 64)
theorem metP (os : Os) (args : Array Value) : tabledP.met Tryd.prog ((World.doorLaid Tryd.prog 400 os).forCall (fun _ _ => 0) ⟨#[], args, []⟩).memory 8 := ⟨by kernel_rfl, by kernel_rfl⟩
def tabledX : Tabled := (("reliquary/aes.boxes", Rows.laid_reliquary_aes_boxes), 1, 32)
theorem metX (os : Os) (args : Array Value) : tabledX.met Tryd.prog ((World.doorLaid Tryd.prog 400 os).forCall (fun _ _ => 0) ⟨#[], args, []⟩).memory 8 := ⟨by kernel_rfl, by kernel_rfl⟩
end Go.Proofs.YtflnodkajhokhaaDoor
end

section
namespace Go.Proofs.YtflnodkajhokhaaDoor
open Go.ChangeShapes Go.WideShapes Go.ChangeAt Go.RowKit
def laidU : List (String × DataW Unit) := [("reliquary/aes.unboxes", Rows.laid_reliquary_aes_unboxes)]
theorem gU : Tryd.prog.globalNamed "reliquary/aes.unboxes" = some 2 := by kernel_rfl
theorem tU : (Tryd.prog.globals[2]?).map (·.type) = some 147 := by kernel_rfl
theorem laid_tabU : (Rows.laid_reliquary_aes_unboxes : DataW Unit) = Lib.tabData .u64 (AM.wuntab.map fun n : Nat => (n : Int)) := by kernel_rfl
theorem lenU : AM.wuntab.length = 32 := by kernel_rfl
theorem tabU_of_laid {W : World} (h : laidMetH Tryd.prog laidU W) : TabU W := by
  rw [MakeChecks.laidMetH_plain _ _ _ (by kernel_rfl)] at h
  unfold laidU at h
  rw [laid_tabU] at h
  have ht := Lib.tabIs_of_head gU tU Tryd.underlying147 Tryd.underlying66 cells1_uint64 cells32_uint64 h
  intro t htt
  have hc := ht.cell gU t (by rw [List.length_map, lenU]; exact htt)
  rw [hc]
  unfold gb
  rw [List.getD_eq_getElem?_getD, List.getD_eq_getElem?_getD, List.getElem?_map, List.getElem?_eq_getElem (by rw [lenU]; exact htt)]
  rfl
def tabledU : Tabled := (("reliquary/aes.unboxes", Rows.laid_reliquary_aes_unboxes), 2, 32)
theorem metU (os : Os) (args : Array Value) : tabledU.met Tryd.prog ((World.doorLaid Tryd.prog 400 os).forCall (fun _ _ => 0) ⟨#[], args, []⟩).memory 8 := ⟨by kernel_rfl, by kernel_rfl⟩
def laidXUPs : List (String × DataW Unit) := [("reliquary/aes.boxes", Rows.laid_reliquary_aes_boxes), ("reliquary/aes.unboxes", Rows.laid_reliquary_aes_unboxes), ("reliquary/sha.constants", Rows.laid_reliquary_sha_constants)]
theorem laidXUPs_X : laidXUPs.filter (fun x => x.1 == "reliquary/aes.boxes") = laidX := by
  unfold laidXUPs laidX
  rw [List.filter_cons_of_pos (by decide), List.filter_cons_of_neg (by decide), List.filter_cons_of_neg (by decide)]; rfl
theorem laidXUPs_U : laidXUPs.filter (fun x => x.1 == "reliquary/aes.unboxes") = laidU := by
  unfold laidXUPs laidU
  rw [List.filter_cons_of_neg (by decide), List.filter_cons_of_pos (by decide), List.filter_cons_of_neg (by decide)]; rfl
theorem laidXUPs_P : laidXUPs.filter (fun x => x.1 == "reliquary/sha.constants") = laidP := by
  unfold laidXUPs laidP
  rw [List.filter_cons_of_neg (by decide), List.filter_cons_of_neg (by decide), List.filter_cons_of_pos (by decide)]; rfl
theorem tabsXUPs_of_laid {W : World} (h : laidMetH Tryd.prog laidXUPs W) : TabX W /\ TabU W /\ TabP W := by
  have h0 := h.filter (fun x => x.1 == "reliquary/aes.boxes")
  rw [laidXUPs_X] at h0
  have h1 := h.filter (fun x => x.1 == "reliquary/aes.unboxes")
  rw [laidXUPs_U] at h1
  have h2 := h.filter (fun x => x.1 == "reliquary/sha.constants")
  rw [laidXUPs_P] at h2
  exact ⟨tabX_of_laid h0, tabU_of_laid h1, tabP_of_laid h2⟩
theorem doorXUPs_met (os : Os) (args : Array Value) : laidMetH Tryd.prog laidXUPs ((World.doorLaid Tryd.prog 400 os).forCall (fun _ _ => 0) ⟨#[], args, []⟩).memory := by
  rw [MakeChecks.laidMetH_plain _ _ _ (by kernel_rfl)]
  exact laidMet_many (fuel := 8) [tabledX, tabledU, tabledP] (by
    intro x hx
    simp only [List.mem_cons, List.not_mem_nil, or_false] at hx
    rcases hx with rfl | rfl | rfl
    . exact metX os args
    . exact metU os args
    . exact metP os args) (by decide)
end Go.Proofs.YtflnodkajhokhaaDoor
end
