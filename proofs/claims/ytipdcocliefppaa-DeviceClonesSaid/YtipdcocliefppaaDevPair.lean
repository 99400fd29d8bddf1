/- A device of the program's and one of the document's that tell the same: what a call on both leaves. Own work. -/
import Derived.Test.YtipdcocliefppaaDevAct
import Derived.Test.YtipdcocliefppaaDevSame
namespace Go.Proofs.Ytipdcocliefppaa
open Go.ChangeShapes Go.WideShapes Go.ChangeAt Go.RowKit
/-- The document's device, as its variable holds it. -/
abbrev rcells (S : DM.DS) (lv : Value) : List Value := [.int .i64 (S.most : Int), .string (bstr S.seen), .string (bstr S.safe), lv, .int .i64 (S.steps : Int), .bool S.down, .bool S.told, .int .i64 (S.after : Int), .bool S.done]
/-- In block d lies the program's device, in the variable b the document's. -/
structure Pair (w : World) (d : Nat) (F R : Nat → Prop) (S : DM.DS) (b : Nat) (la : Option Addr) (n c : Nat) : Prop where
  dv : Dv w d F R S
  blk : Blk w b 29 (rcells S (.slice la n c))
  rl : RL w (.slice la n c) S.loose
  own : ∀ g, (.slice la n c : Value).ownBlock = some g → ¬ F g ∧ g ≠ b
  nb : ¬ R b
theorem Pair.nf {w : World} {d : Nat} {F R : Nat → Prop} {S : DM.DS} {b : Nat} {la : Option Addr} {n c : Nat} (h : Pair w d F R S b la n c) : ¬ F b := fun q => h.nb (h.dv.sub.1 b q)
theorem Pair.turn {w w' : World} {d : Nat} {F R G : Nat → Prop} {S : DM.DS} {b : Nat} {la : Option Addr} {n c : Nat} (h : Pair w d F R S b la n c) (t : Turn G w w') (hR : ∀ k, R k → ¬ G k) (hb : ¬ G b) (hl : ∀ g, (.slice la n c : Value).ownBlock = some g → ¬ G g) : Pair w' d F R S b la n c :=
  ⟨dv_turn h.dv t hR, blk_turn h.blk t hb, rl_turn h.rl t hl, h.own, h.nb⟩
theorem Pair.below {w w' : World} {d : Nat} {F R : Nat → Prop} {S : DM.DS} {b : Nat} {la : Option Addr} {n c : Nat} (h : Pair w d F R S b la n c) (hb : Below w.heap.size w w') : Pair w' d F R S b la n c :=
  h.turn (Turn.of_below (F := fun _ => False) hb) (fun _ _ q => q) (fun q => q) (fun _ _ q => q)
/-- A call that leaves the device as it is. -/
theorem Pair.went {w w' : World} {d : Nat} {F R F' R' : Nat → Prop} {S : DM.DS} {b : Nat} {la : Option Addr} {n c : Nat} (h : Pair w d F R S b la n c) (t : Turn F w w') (hd : Dv w' d F' R' S) (hF : ∀ k, F' k → F k ∨ w.heap.size ≤ k) (hR : ∀ k, R' k → R k ∨ w.heap.size ≤ k) : Pair w' d F' R' S b la n c := by
  refine ⟨hd, blk_turn h.blk t h.nf, rl_turn h.rl t (fun g hg => (h.own g hg).1), fun g hg => ⟨fun q => ?_, (h.own g hg).2⟩, fun q => ?_⟩
  · rcases hF g q with z | z
    · exact (h.own g hg).1 z
    · have := h.rl.lt g hg
      omega
  · rcases hR b q with z | z
    · exact h.nb z
    · have := h.blk.lt
      omega
/-- What a call on both leaves, ahead of the store into the document's variable. -/
def Left (W0 : World) (d : Nat) (F R : Nat → Prop) (S T : DM.DS) (b : Nat) (la : Option Addr) (n c : Nat) (u : Value) (w : World) : Prop :=
  ∃ la' n' c' F' R', u = .tuple #[.agg (rcells T (.slice la' n' c')).toArray, .bool true] ∧ Blk w b 29 (rcells S (.slice la n c)) ∧ Turn F W0 w ∧ (∀ k, F' k → F k ∨ W0.heap.size ≤ k) ∧ (∀ k, R' k → R k ∨ W0.heap.size ≤ k) ∧
    (∀ g, (.slice la' n' c' : Value).ownBlock = some g → (.slice la n c : Value).ownBlock = some g ∨ W0.heap.size ≤ g) ∧
    ∀ w'', w.grownBy w'' (some b) → Blk w'' b 29 (rcells T (.slice la' n' c')) → Pair w'' d F' R' T b la' n' c'
/-- And behind it. -/
def Done (W0 : World) (d : Nat) (F R : Nat → Prop) (T : DM.DS) (b : Nat) (la : Option Addr) (n c : Nat) (u : Value) (w : World) : Prop :=
  ∃ la' n' c' F' R', u = .tuple #[.agg (rcells T (.slice la' n' c')).toArray, .bool true] ∧ Pair w d F' R' T b la' n' c' ∧ Turn (fun k => F k ∨ k = b) W0 w ∧ (∀ k, F' k → F k ∨ W0.heap.size ≤ k) ∧ (∀ k, R' k → R k ∨ W0.heap.size ≤ k) ∧
    (∀ g, (.slice la' n' c' : Value).ownBlock = some g → (.slice la n c : Value).ownBlock = some g ∨ W0.heap.size ≤ g)
theorem Left.done {W0 w : World} {d : Nat} {F R : Nat → Prop} {S T : DM.DS} {b : Nat} {la : Option Addr} {n c : Nat} {u v z : Value} (h : Left W0 d F R S T b la n c u w) (hu : u = .tuple #[v, z]) : ∃ cs : List Value, v = .agg cs.toArray ∧ cs.length = 9 ∧ cs.toArray.all (·.oneCell') = true ∧ Blk w b 29 (rcells S (.slice la n c)) ∧ (∀ w', w.grownBy w' (some b) → Blk w' b 29 cs → Done W0 d F R T b la n c u w') := by
  obtain ⟨la', n', c', F', R', e, hb, t, hF, hR, ho, hP⟩ := h
  have e2 : v = .agg (rcells T (.slice la' n' c')).toArray := by
    rw [hu] at e
    injection e with e
    have := congrArg (fun l : Array Value => l[0]?) e
    simpa using this
  refine ⟨rcells T (.slice la' n' c'), e2, rfl, by simp [Value.oneCell'], hb, fun w' g k => ⟨la', n', c', F', R', e, hP w' g k, ?_, hF, hR, ho⟩⟩
  exact (Turn.trans (F := fun k => F k ∨ k = b) (G := fun k => k = b) ⟨t.os, t.tape, t.output, t.size, fun k hk hn => t.block k hk (fun q => hn (.inl q))⟩ (Turn.of_grown g rfl) (fun i hi => .inl (.inr hi)))
def CallI (W0 : World) (d : Nat) (F R : Nat → Prop) (S T : DM.DS) (b : Nat) (la : Option Addr) (n c : Nat) : Option Value → Bool → World → Prop
  | none, _, w => w = W0
  | some u, false, w => Left W0 d F R S T b la n c u w
  | some u, true, w => Done W0 d F R T b la n c u w
theorem CallI.form {W0 w : World} {d : Nat} {F R : Nat → Prop} {S T : DM.DS} {b : Nat} {la : Option Addr} {n c : Nat} {u : Value} {s : Bool} (h : CallI W0 d F R S T b la n c (some u) s w) : ∃ v, u = .tuple #[v, .bool true] := by
  cases s with
  | false => obtain ⟨_, _, _, _, _, e, _⟩ := h; exact ⟨_, e⟩
  | true => obtain ⟨_, _, _, _, _, e, _⟩ := h; exact ⟨_, e⟩
/-- A call on both, and what the document's leaves put into its variable. -/
theorem Pair.calls {w : World} {d : Nat} {F R : Nat → Prop} {S : DM.DS} {b : Nat} {la : Option Addr} {n c : Nat} (h : Pair w d F R S b la n c) (htm : Tame S) (x : AD) (u : Value) (hu : Rd w u x.data) (huf : 0 < x.data.length → ∀ g, u.ownBlock = some g → ¬ F g) (hdl : x.data.length ≤ 20000) (hat : -9223372036854775808 ≤ x.at_ ∧ x.at_ ≤ 9223372036854775807) (hk8 : x.kind < 256) :
    Calls Try.prog 12 #[.pointer (some ⟨d, 0, none⟩), .agg (rcells S (.slice la n c)).toArray, .agg #[.int .u8 (x.kind : Int), .int .i64 x.at_, u, .bool x.done]] w (fun e w' => ∃ u, e = .returned u ∧ Left w d F R S (DM.act S x) b la n c u w') := by
  obtain ⟨ua, uc, rfl, _⟩ := hu.shape
  refine (do_any d F R S x w h.dv htm la n c h.rl (fun g hg => (h.own g hg).1) ua uc hu huf hdl hat hk8).mono ?_
  rintro e w' ⟨la', n', c', F', R', rfl, l, dv, hF, hR, t, hown⟩
  have hbs : b < w.heap.size := h.blk.lt
  have hnb : ¬ R' b := fun q => (hR b q).elim h.nb (fun z => by omega)
  have hne : ∀ g, (.slice la' n' c' : Value).ownBlock = some g → g ≠ b := fun g hg e => (hown g hg).1.elim (fun z => (h.own g z).2 e) (fun z => by omega)
  refine ⟨_, rfl, la', n', c', F', R', rfl, blk_turn h.blk t h.nf, t, hF, hR, fun g hg => (hown g hg).1, fun w'' hg hk => ⟨?_, hk, ?_, fun g q => ⟨(hown g q).2, hne g q⟩, hnb⟩⟩
  · exact dv.keep hg.size (fun k hk => hg.block k (dv.sub.2 k hk) (fun e => hnb (by rw [← Option.some.inj e]; exact hk)))
  · refine l.grown hg ?_
    cases hq : (Value.slice la' n' c').ownBlock with
    | none => exact .inl rfl
    | some z => exact .inr (fun e => hne z hq (Option.some.inj e))
theorem infoAct : (Try.prog.info? 35).map (·.size) = some 4 := by kernel_rfl
theorem act_range {w : World} {b o : Nat} {v0 v1 v2 v3 : Value} (c0 : w.cell? ⟨b, o, none⟩ = some v0) (c1 : w.cell? ⟨b, o + 1, none⟩ = some v1) (c2 : w.cell? ⟨b, o + 2, none⟩ = some v2) (c3 : w.cell? ⟨b, o + 3, none⟩ = some v3) : w.rangeAt b o [v0, v1, v2, v3] := fun j v hv => by
  match j, hv with
  | 0, hv => rw [← Option.some.inj hv]; exact c0
  | 1, hv => rw [← Option.some.inj hv]; exact c1
  | 2, hv => rw [← Option.some.inj hv]; exact c2
  | 3, hv => rw [← Option.some.inj hv]; exact c3
  | j + 4, hv => simp at hv
end Go.Proofs.Ytipdcocliefppaa
