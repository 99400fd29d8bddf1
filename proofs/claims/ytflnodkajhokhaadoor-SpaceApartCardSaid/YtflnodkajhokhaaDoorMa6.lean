/- Texts of 3 subjects in one file: ShaD, HmacA, KdfL. Own work. -/
import Derived.Test.YtflnodkajhokhaaDoorMa5
import Derived.Test.YtflnodkajhokhaaDoorMa0
import Derived.Test.YtflnodkajhokhaaDoorMa1
import Derived.Deep.Slices
import Derived.LaidSub
import Derived.Lib.ConvBytes
import Derived.Lib.AtoiErrMem
import Derived.BigQuiet
import Derived.Test.YtflnodkajhokhaaDoorMa2
import Derived.Lib.SlBytesConst
section
namespace Go.Proofs.YtflnodkajhokhaaDoor
open Go.ChangeShapes Go.WideShapes Go.ChangeAt Go.RowKit
open SM
def hc (st o : List Nat) (n : Nat) : List Value := row32 st ++ (row8 o ++ [.int .i64 (n : Int)])
theorem hc_len {st o : List Nat} (hs : st.length = 8) (ho : o.length = 64) (n : Nat) : (hc st o n).length = 73 := by
  unfold hc; simp [row32_len, row8_len, hs, ho]
theorem hc_size {st o : List Nat} (hs : st.length = 8) (ho : o.length = 64) (n : Nat) : (hc st o n)[72]? = some (.int .i64 (n : Int)) := by
  unfold hc
  rw [List.getElem?_append_right (by rw [row32_len]; omega), row32_len, hs, List.getElem?_append_right (by rw [row8_len]; omega), row8_len, ho]
  rfl
theorem hc_state {st o : List Nat} (hs : st.length = 8) (n j : Nat) (v : Value) (h : (row32 st)[j]? = some v) : (hc st o n)[0 + j]? = some v := by
  have hj : j < (row32 st).length := (List.getElem?_eq_some_iff.1 h).1
  have _ := hs
  unfold hc; rw [Nat.zero_add, List.getElem?_append_left hj]; exact h
theorem hc_open {st o : List Nat} (hs : st.length = 8) (n j : Nat) (v : Value) (h : (row8 o)[j]? = some v) : (hc st o n)[8 + j]? = some v := by
  have hj : j < (row8 o).length := (List.getElem?_eq_some_iff.1 h).1
  unfold hc
  rw [List.getElem?_append_right (by rw [row32_len]; omega), row32_len, hs, show 8 + j - 8 = j by omega, List.getElem?_append_left hj]; exact h
theorem hc_setSize {st o : List Nat} (hs : st.length = 8) (ho : o.length = 64) (n m : Nat) : (hc st o n).set 72 (.int .i64 (m : Int)) = hc st o m := by
  unfold hc
  rw [List.set_append_right _ _ (by rw [row32_len]; omega), row32_len, hs, List.set_append_right _ _ (by rw [row8_len]; omega), row8_len, ho]
  rfl
theorem splice_len {α : Type} (L : List α) (off : Nat) (cs : List α) (h : off + cs.length <= L.length) : (splice L off cs).length = L.length := length_splice L off cs h
theorem row8_splice (o : List Nat) (f : Nat) (p : List Nat) : row8 (splice o f p) = splice (row8 o) f (row8 p) := by
  unfold splice row8; simp
theorem hc_copy {st o : List Nat} (hs : st.length = 8) (n f : Nat) (p : List Nat) (hf : f + p.length <= o.length) : splice (hc st o n) (8 + f) (row8 p) = hc st (splice o f p) n := by
  unfold hc
  rw [row8_splice]
  unfold splice
  rw [row8_len, List.take_append, row32_len, hs, show 8 + f - 8 = f by omega, List.take_of_length_le (by rw [row32_len]; omega), List.take_append_of_le_length (by rw [row8_len]; omega), List.drop_append, row32_len, hs, List.drop_eq_nil_of_le (by rw [row32_len]; omega), show 8 + f + p.length - 8 = f + p.length by omega, List.drop_append_of_le_length (by rw [row8_len]; omega)]
  simp
theorem hc_newState {st o st' : List Nat} (hs : st.length = 8) (hs' : st'.length = 8) (n : Nat) : splice (hc st o n) 0 (row32 st') = hc st' o n := by
  unfold hc splice
  rw [row32_len, hs', List.drop_append, row32_len, hs]
  simp [List.drop_of_length_le, row32_len, hs]
theorem hc_newOpen {st o o' : List Nat} (hs : st.length = 8) (ho : o.length = 64) (ho' : o'.length = 64) (n : Nat) : splice (hc st o n) 8 (row8 o') = hc st o' n := by
  have := hc_copy (o := o) hs n 0 o' (by omega)
  rw [this]
  congr 1
  unfold splice
  rw [ho']
  simp [List.drop_of_length_le, ho]

theorem stTo_app (l m : List Nat) : ∀ n, 64 * n <= l.length -> stTo (l ++ m) n = stTo l n
  | 0, _ => rfl
  | n + 1, h => by
    unfold stTo
    rw [stTo_app l m n (by omega), List.drop_append_of_le_length (by omega), List.take_append_of_le_length (by rw [List.length_drop]; omega)]
structure HV (st o L : List Nat) : Prop where
  st_ : st = stTo L (L.length / 64)
  open_ : Bytes 64 o
  rest : o.take (L.length % 64) = L.drop (64 * (L.length / 64))
theorem HV.words {st o L : List Nat} (h : HV st o L) : Words 8 st := by rw [h.st_]; exact stTo_w _
theorem HV.start : HV h0 (List.replicate 64 0) [] := ⟨rfl, bytes_zero 64, rfl⟩
theorem splice_take {α : Type} (o p : List α) (f : Nat) (h : f + p.length <= o.length) : (splice o f p).take (f + p.length) = o.take f ++ p := by
  unfold splice
  rw [<- List.append_assoc, List.take_append_of_le_length (by rw [List.length_append, List.length_take]; omega), List.take_of_length_le (by rw [List.length_append, List.length_take]; omega)]
theorem splice_bytes {o p : List Nat} (ho : Bytes 64 o) (f : Nat) (hp : ∀ k, gb p k < 256) (h : f + p.length <= 64) : Bytes 64 (splice o f p) := by
  refine ⟨by rw [splice_len _ _ _ (by rw [ho.1]; exact h)]; exact ho.1, ?_⟩
  unfold splice
  exact gb_app _ _ (gb_take_byte _ _ ho.2) (gb_app _ _ hp (fun k => by rw [gb_drop]; exact ho.2 _))
theorem HV.part {st o L p : List Nat} (h : HV st o L) (hp : ∀ k, gb p k < 256) (hl : L.length % 64 + p.length < 64) : HV st (splice o (L.length % 64) p) (L ++ p) := by
  have e1 : (L ++ p).length / 64 = L.length / 64 := by rw [List.length_append]; omega
  have e2 : (L ++ p).length % 64 = L.length % 64 + p.length := by rw [List.length_append]; omega
  refine ⟨?_, splice_bytes h.open_ _ hp (by omega), ?_⟩
  . rw [e1, stTo_app _ _ _ (by omega)]; exact h.st_
  . rw [e1, e2, splice_take _ _ _ (by rw [h.open_.1]; omega), h.rest, List.drop_append_of_le_length (by omega)]
theorem HV.full {st o L p : List Nat} (h : HV st o L) (hl : L.length % 64 + p.length = 64) : HV (blk st (splice o (L.length % 64) p)) (List.replicate 64 0) (L ++ p) := by
  have e1 : (L ++ p).length / 64 = L.length / 64 + 1 := by rw [List.length_append]; omega
  have e2 : (L ++ p).length % 64 = 0 := by rw [List.length_append]; omega
  have hd : (L ++ p).drop (64 * (L.length / 64)) = splice o (L.length % 64) p := by
    rw [List.drop_append_of_le_length (by omega), <- h.rest, <- splice_take _ _ _ (by rw [h.open_.1]; omega)]
    exact List.take_of_length_le (by rw [splice_len _ _ _ (by rw [h.open_.1]; omega), h.open_.1]; omega)
  refine ⟨?_, bytes_zero 64, ?_⟩
  . rw [e1]
    show _ = blk (stTo (L ++ p) (L.length / 64)) (((L ++ p).drop (64 * (L.length / 64))).take 64)
    rw [stTo_app _ _ _ (by omega), <- h.st_, hd, List.take_of_length_le (by rw [splice_len _ _ _ (by rw [h.open_.1]; omega), h.open_.1]; omega)]
  . rw [e1, e2]
    rw [List.take_zero, List.drop_eq_nil_of_le (by rw [List.length_append]; omega)]

def Hs (w : World) (g : Nat) (L : List Nat) : Prop := ∃ st o, HV st o L /\ Blk w g 118 (hc st o L.length)
theorem Hs.lt {w : World} {g : Nat} {L : List Nat} (h : Hs w g L) : g < w.heap.size := by obtain ⟨_, _, _, hb⟩ := h; exact hb.lt
theorem Hs.below {w w' : World} {g B : Nat} {L : List Nat} (h : Hs w g L) (hb : Below B w w') (hlt : g < B) : Hs w' g L := by
  obtain ⟨st, o, hv, hb'⟩ := h; exact ⟨st, o, hv, hb'.below hb hlt⟩
theorem Hs.grown {w w' : World} {g : Nat} {L : List Nat} (h : Hs w g L) {row : Option Nat} (hg : w.grownBy w' row) (hne : some g ≠ row) : Hs w' g L := by
  obtain ⟨st, o, hv, hb'⟩ := h; exact ⟨st, o, hv, hb'.grown hg hne⟩
theorem Hs.alloc {w : World} {g : Nat} {L : List Nat} (h : Hs w g L) (ob : Obj) : Hs (w.alloc ob) g L := by
  obtain ⟨st, o, hv, hb'⟩ := h; exact ⟨st, o, hv, hb'.alloc ob⟩
end Go.Proofs.YtflnodkajhokhaaDoor
namespace Go.Proofs.YtflnodkajhokhaaDoor
open Go.ChangeShapes Go.WideShapes Go.ChangeAt Go.RowKit
open SM
theorem put_none (a : Act) (v : Value) : a.put none v = a := rfl
theorem Rd.take3 {w : World} {ao : Option Addr} {n cap : Nat} {l : List Nat} (h : Rd w (.slice ao n cap) l) (k : Nat) (h0 : 0 < k) (hk : k <= l.length) : Rd w (.slice ao k k) (l.take k) := by
  obtain ⟨ad, rfl, _⟩ := h.at_ 0 (by omega)
  have e1 : (l.take k).length = k := by rw [List.length_take]; omega
  refine ⟨gb_take_byte l k h.byte, by rw [e1]; have := h.fits; omega, .inr ⟨ad, k, by rw [e1], by rw [e1]; exact Nat.le_refl _, fun j hj => ?_⟩⟩
  rw [gb_take l k j (by omega)]
  obtain ⟨ad', e, hc⟩ := h.at_ j (by omega)
  cases e
  exact hc
theorem take_app_drop (m : List Nat) (k n : Nat) : m.take k ++ (m.drop k).take n = m.take (k + n) := by
  rw [List.take_add]
set_option maxRecDepth 100000 in
set_option maxHeartbeats 1000000 in
theorem write_any (g : Nat) (L m : List Nat) (v : Value) (w : World) (hv : Rd w v m) (hne : 0 < m.length -> v.ownBlock ≠ some g) (hs : Hs w g L) (ht : TabP w) (hgk : g ≠ 0) (hn : L.length + m.length <= 4611686018427387904) :
    Calls Tryd.prog 48 #[.pointer (some ⟨g, 0, none⟩), v] w fun e w' => e = .returned (.int .i64 0) /\ Hs w' g (L ++ m) /\ w.grownBy w' (some g) := by
  have HT := Lib.hid ht
  have HV := Lib.hid hv
  have HS := Lib.hid hs
  have HNE := Lib.hid hne
  clear ht hv hs hne
  go_enter Tryd.func48, Tryd.ntmps48
  go_wp2_with fail
  go_loopw [1] (fun x wr => ∃ k : Nat, k <= m.length /\ Rd wr x (m.drop k) /\ (k < m.length -> x.ownBlock ≠ some g) /\ Hs wr g (L ++ m.take k) /\ w.grownBy wr (some g)) (fun x _ => vlen x)
  case atStart => exact ⟨0, Nat.zero_le _, by simpa using HV.out, HNE.out, by simpa using HS.out, World.grownBy.refl w _⟩
  case round =>
    clear HV HNE HS
    obtain ⟨k, hk, hr, hne, hs, hg⟩ := hrel
    have hvl : (m.drop k).length = m.length - k := List.length_drop
    obtain ⟨ao, cap, rfl, hcap⟩ := hr.shape
    rw [hvl] at hr hcap ⊢
    by_cases hlt : k < m.length
    . replace hne := hne hlt
      obtain ⟨st, o, hv, hb⟩ := hs
      obtain ⟨P, hP⟩ : ∃ P, P = L ++ m.take k := ⟨_, rfl⟩
      rw [<- hP] at hv hb
      have hPl : P.length = L.length + k := by rw [hP, List.length_append, List.length_take]; omega
      have hcs := hb.cell 72 _ (hc_size hv.words.1 hv.open_.1 _)
      have hfree := hb.free 72
      obtain ⟨N, hN⟩ : ∃ N, N = P.length := ⟨_, rfl⟩
      have hN1 : N <= 4611686018427387904 := by omega
      rw [<- hN] at hcs
      obtain ⟨r, hr0⟩ : ∃ r, r = m.length - k := ⟨_, rfl⟩
      rw [<- hr0] at hr hcap ⊢
      have hr1 : 0 < r := by omega
      have hr2 : r <= 4611686018427387904 := by omega
      have HR := Lib.hid hr
      have HNE := Lib.hid (show (Value.slice ao r cap).ownBlock ≠ some g from fun q => hne ((owner_len (m := r) (d := cap)).trans q))
      have HB := Lib.hid hb
      have HP := Lib.hid hP
      have HH := Lib.hid hv
      have HG := Lib.hid hg
      have HPL := Lib.hid hPl
      have HR0 := Lib.hid hr0
      have HNN := Lib.hid hN
      have HK := Lib.hid hk
      have HLT := Lib.hid hlt
      clear hr hne hb hP hv hg hPl hvl hr0 hN hk hlt
      go_upto_region 7 with (fail)
      obtain ⟨f, hf⟩ : ∃ f, f = N % 64 := ⟨_, rfl⟩
      obtain ⟨n, hnn⟩ : ∃ n, n = min r (64 - N % 64) := ⟨_, rfl⟩
      have e1 : (N : Int) % 64 = (f : Int) := by omega
      have e2 : (if 64 - (N : Int) % 64 < (r : Int) then 64 - (N : Int) % 64 else (r : Int)) = (n : Int) := by split <;> omega
      rw [e2, e1]
      have hf1 : f < 64 := by omega
      have hf2 : (f : Int) <= 64 := by omega
      have hf3 : ¬ ((64 : Nat) = f) := by omega
      have hn1 : 0 < n := by omega
      have hn2 : f + n <= 64 := by omega
      have hn3 : n <= r := by omega
      have hn4 : (n : Int) <= (r : Int) := by omega
      have hn5 : (n : Int) <= (cap : Int) := by omega
      have hpl : ((m.drop k).take n).length = n := by rw [List.length_take, List.length_drop, <- HR0.out]; omega
      have hpp : ((m.drop k).take n).take n = (m.drop k).take n := by rw [List.take_take, Nat.min_self]
      have hrd : Rd wr (.slice ao n n) ((m.drop k).take n) := HR.out.take3 n hn1 (by rw [List.length_drop, <- HR0.out]; exact hn3)
      have hmin : n = min ((m.drop k).take n).length (64 - f) := by rw [hpl]; omega
      have hcell : ∀ W, Blk W g 118 (splice (hc st o P.length) (8 + f) (row8 (((m.drop k).take n).take n))) -> Blk W g 118 (hc st (splice o f ((m.drop k).take n)) P.length) := fun W hW => by
        rw [hpp, hc_copy HH.out.words.1 _ _ _ (by rw [hpl, HH.out.open_.1]; exact hn2)] at hW; exact hW
      have hso : Bytes 64 (splice o f ((m.drop k).take n)) := splice_bytes HH.out.open_ f hrd.byte (by rw [hpl]; exact hn2)
      have HCELL := Lib.hid hcell
      have HRD := Lib.hid hrd
      have HMIN := Lib.hid hmin
      have HSO := Lib.hid hso
      have HFIT := Lib.hid (show (8 + f) + n <= (hc st o P.length).length by rw [hc_len HH.out.words.1 HH.out.open_.1]; omega)
      have HF := Lib.hid hf
      have HN0 := Lib.hid hnn
      have HPL2 := Lib.hid hpl
      clear hcell hrd hmin hpl hpp hso hf hnn e1 e2
      have hnx : (n : Int).toNat = n := Int.toNat_natCast n
      simp only [hnx]
      by_cases hfull : f + n = 64
      . have hq : ((f : Int) + (n : Int) == 64) = true := by simp; omega
        have hq2 : (f : Int) + (n : Int) = 64 := by omega
        go_upto_region 11 with ((with_reducible show wpList _ _ _ _ _ _); refine wpList_copy_blk rfl (.tmp 31) (.tmp 32) 25 25 rfl Tryd.underlying25 g (8 + f) (64 - f) (64 - f) 118 (hc st o P.length) HB.out (some ⟨g, 8 + f, none⟩) rfl (.slice ao n n) rfl _ HRD.out n HMIN.out (fun _ => rfl) HFIT.out ?_; intro w2 hb2 hg2; have b2 := HCELL.out _ hb2; have c2 := b2.cell 72 _ (hc_size HH.out.words.1 HSO.out.1 _); have f2 := b2.free 72; rw [<- HNN.out] at c2; have B2 := Lib.hid b2; have G2 := Lib.hid (only_trans HG.out hg2); have R2 := Lib.hid (HR.out.grown hg2 (.inr HNE.out)); clear hb2 hg2 b2)
        have b3 := B2.out.set 72 (.int .i64 ((N : Int) + (n : Int)))
        rw [show ((N : Int) + (n : Int)) = ((N + n : Nat) : Int) by omega, hc_setSize HH.out.words.1 HSO.out.1] at b3
        have g3 := only_set G2.out (p := ⟨g, 72, none⟩) (.inl rfl) (.int .i64 ((N : Int) + (n : Int)))
        have r3 : Rd (w2.setCell ⟨g, 72, none⟩ (.int .i64 ((N : Int) + (n : Int)))) (.slice ao r cap) (m.drop k) := R2.out.setCell _ _ HNE.out
        have r4 := r3.drop n (by rw [List.length_drop, <- HR0.out]; exact hn3)
        rw [List.length_drop, <- HR0.out, List.drop_drop] at r4
        obtain ⟨w3, hw3⟩ : ∃ w3, w3 = w2.setCell ⟨g, 72, none⟩ (.int .i64 ((N + n : Nat) : Int)) := ⟨_, rfl⟩
        rw [show ((N : Int) + (n : Int)) = ((N + n : Nat) : Int) by omega] at g3 r3 r4 ⊢
        rw [<- hw3] at b3 g3 r3 r4 ⊢
        obtain ⟨o', ho'⟩ : ∃ o', o' = splice o f ((m.drop k).take n) := ⟨_, rfl⟩
        have HSO' := HSO.out
        rw [<- ho'] at b3 HSO'
        have hvF := HH.out.full (p := (m.drop k).take n) (by rw [HPL2.out, <- HNN.out, <- HF.out]; exact hfull)
        rw [<- HNN.out, <- HF.out, <- ho', HP.out, List.append_assoc, take_app_drop m k n] at hvF
        have hbw := blk_w (b := o') HH.out.words
        obtain ⟨st', hst'⟩ : ∃ st', st' = blk st o' := ⟨_, rfl⟩
        rw [<- hst'] at hvF hbw
        have HST := Lib.hid hst'
        have HO' := Lib.hid ho'
        have B3 := Lib.hid b3
        have G3 := Lib.hid g3
        have R4 := Lib.hid r4
        have HS3 := Lib.hid HSO'
        have HVF := Lib.hid hvF
        have HBW := Lib.hid hbw
        have HT3 := Lib.hid (HT.out.grown g3 hgk)
        have HNE4 := Lib.hid (owner_cut (cap := cap) (k := n) (n' := r - n) (c' := cap - n) HNE.out)
        clear b3 g3 r3 r4 hw3 ho' HSO' hvF hbw hq hq2 hst'
        have hvx : vlen (.slice (if cap = n then ao else ao.map (·.add n)) (r - n) (cap - n)) = r - n := rfl
        generalize Value.slice (if cap = n then ao else ao.map (·.add n)) (r - n) (cap - n) = x1 at *
        have HVX := Lib.hid hvx
        clear hvx
        have L8 := Lib.hid (show (row32 st).length = 8 by rw [row32_len]; exact HH.out.words.1)
        have L8' := Lib.hid (show (row32 st').length = 8 by rw [row32_len]; exact HBW.out.1)
        have L64 := Lib.hid (show (row8 o').length = 64 by rw [row8_len]; exact HS3.out.1)
        refine wp_region_tail (by kernel_rfl) 10 (by decide) (by kernel_rfl) (by kernel_rfl) (by kernel_rfl) [.val (.pointer (some ⟨g, 0, none⟩)), .val (.pointer (some ⟨g, 0, none⟩)), .val (.pointer (some ⟨g, 0, none⟩)), .val (.pointer (some ⟨g, 0, none⟩)), .val (.agg (row32 st).toArray), .val (.pointer (some ⟨g, 0, none⟩)), .val (.pointer (some ⟨g, 0, none⟩)), .val (.pointer (some ⟨g, 8, none⟩)), .val (.agg (row8 o').toArray), .val (.agg (row32 st').toArray)] ?_ ?_
        . refine ⟨?_, ?_, ?_, ?_, ?_, ?_, ?_, ?_, ?_, ?_, trivial⟩
          . intro a W hF hB hd
            exact does_val rfl (ex_move rfl (hF 0 (by decide +kernel))) rfl
          . intro a W hF hB hd
            exact does_val rfl (ex_move rfl (hF 0 (by decide +kernel))) rfl
          . intro a W hF hB hd
            have e50 : a.eval (.tmp 50) = .pointer (some ⟨g, 0, none⟩) := hd 1 (by decide +kernel)
            exact does_val rfl (by unfold execOp; simp only [e50]; go_simp) rfl
          . intro a W hF hB hd
            have e51 : a.eval (.tmp 51) = .pointer (some ⟨g, 0, none⟩) := hd 2 (by decide +kernel)
            exact does_val rfl (by unfold execOp; simp only [e51]; go_simp) rfl
          . intro a W hF hB hd
            have e52 : a.eval (.tmp 52) = .pointer (some ⟨g, 0, none⟩) := hd 3 (by decide +kernel)
            exact ⟨rfl, fun K hK => wp_load_mid 114 (.tmp 52) rfl g 0 e52 (row32 st) _ (range_part (B3.out.below hB B3.out.lt) 0 _ (fun j v => hc_state HH.out.words.1 _ j v)) Tryd.underlying114 rfl (by rw [L8.out]; exact infoSt) (hK _ _ (Below.refl _ _) rfl)⟩
          . intro a W hF hB hd
            exact does_val rfl (ex_move rfl (hF 0 (by decide +kernel))) rfl
          . intro a W hF hB hd
            have e54 : a.eval (.tmp 54) = .pointer (some ⟨g, 0, none⟩) := hd 5 (by decide +kernel)
            exact does_val rfl (by unfold execOp; simp only [e54]; go_simp) rfl
          . intro a W hF hB hd
            have e55 : a.eval (.tmp 55) = .pointer (some ⟨g, 0, none⟩) := hd 6 (by decide +kernel)
            exact does_val rfl (by unfold execOp; simp only [e55]; go_simp) rfl
          . intro a W hF hB hd
            have e56 : a.eval (.tmp 56) = .pointer (some ⟨g, 8, none⟩) := hd 7 (by decide +kernel)
            exact ⟨rfl, fun K hK => wp_load_mid 116 (.tmp 56) rfl g 8 e56 (row8 o') _ (range_part (B3.out.below hB B3.out.lt) 8 _ (fun j v => hc_open HH.out.words.1 _ j v)) Tryd.underlying116 rfl (by rw [L64.out]; exact infoBlk) (hK _ _ (Below.refl _ _) rfl)⟩
          . intro a W hF hB hd
            have e53 : a.eval (.tmp 53) = .agg (row32 st).toArray := hd 4 (by decide +kernel)
            have e57 : a.eval (.tmp 57) = .agg (row8 o').toArray := hd 8 (by decide +kernel)
            exact does_call rfl (ex_call (vs := #[.agg (row32 st).toArray, .agg (row8 o').toArray]) rfl (by simp only [List.map_toArray, List.map_cons, List.map_nil, e53, e57]) (by go_simp)) ((after_any st o' HH.out.words HS3.out W (HT3.out.below hB)).mono fun e w' h => ⟨_, h.1, by rw [HST.out]; rfl, h.2⟩)
        . intro vs W hB hv
          have e0 : vs 0 = .pointer (some ⟨g, 0, none⟩) := hv 0 (by omega)
          have e9 : vs 9 = .agg (row32 st').toArray := hv 9 (by omega)
          simp only [List.take_succ_cons, List.take_zero, List.drop_succ_cons, List.drop_zero, putOps, Act.put, List.setIfInBounds_toArray, List.set_cons_zero, List.set_cons_succ, e0, e9]
          have b4 := B3.out.below hB B3.out.lt
          have g4 := only_trans G3.out (grown_of_below hB (some g))
          have r4 := R4.out.below hB
          clear hv e0 e9 hB
          have hZ := Lib.hid (hc_newState (o := o') HH.out.words.1 HBW.out.1 (N + n))
          have hZ2 := Lib.hid (hc_newOpen (o := o') (o' := List.replicate 64 0) HBW.out.1 HS3.out.1 (by simp) (N + n))
          have B4 := Lib.hid b4
          have G4 := Lib.hid g4
          have R5 := Lib.hid r4
          have LH := Lib.hid (hc_len HH.out.words.1 HS3.out.1 (N + n))
          have LH2 := Lib.hid (hc_len HBW.out.1 HS3.out.1 (N + n))
          clear b4 g4 r4
          go_upto_region 12 with (refine wpList_store_mid rfl 114 (.tmp 60) (.tmp 58) rfl g 0 (row32 st').toArray rfl rfl (there_part B4.out 0 _ (by rw [List.size_toArray, L8'.out, LH.out]; omega)) (by rw [List.size_toArray, L8'.out]; exact infoSt) (row32_one _) ?_; have b5 := setCells_mid g _ (row32 st') 0 _ _ B4.out (by rw [L8'.out, LH.out]; omega); rw [hZ.out] at b5; have B5 := Lib.hid b5; have G5 := Lib.hid (only_setCells g (row32 st') 0 _ G4.out); have R6 := Lib.hid (R5.out.grown (only_setCells g (row32 st') 0 _ (World.grownBy.refl _ _)) (.inr HNE4.out)); clear b5)
          go_wp2_with (refine wpList_store_mid rfl 116 (.tmp 64) (.tmp 62) rfl g 8 (row8 (List.replicate 64 0)).toArray rfl rfl (there_part B5.out 8 _ (by rw [List.size_toArray, row8_len, List.length_replicate, LH2.out]; omega)) (by rw [List.size_toArray, row8_len, List.length_replicate]; exact infoBlk) (row8_one _) ?_; have b6 := setCells_mid g _ (row8 (List.replicate 64 0)) 8 _ _ B5.out (by rw [row8_len, List.length_replicate, LH2.out]; omega); rw [hZ2.out] at b6; have B6 := Lib.hid b6; have G6 := Lib.hid (only_setCells g (row8 (List.replicate 64 0)) 8 _ G5.out); have R7 := Lib.hid (R6.out.grown (only_setCells g (row8 (List.replicate 64 0)) 8 _ (World.grownBy.refl _ _)) (.inr HNE4.out)); clear b6)
          simp only [put_none]
          go_roundw
          case rel =>
            refine ⟨k + n, ?_, R7.out, fun _ => HNE4.out, ⟨st', _, HVF.out, ?_⟩, G6.out⟩
            . have := HR0.out; have := HK.out; omega
            . have h1 : (L ++ m.take (k + n)).length = N + n := by
                rw [List.length_append, List.length_take]; have := HR0.out; have := HK.out; have := HPL.out; have := HNN.out; omega
              rw [h1]; exact B6.out
          case measure =>
            show vlen x1 < r
            rw [HVX.out]; omega
      . have hq : ((f : Int) + (n : Int) == 64) = false := by simp; omega
        have hq2 : ¬ ((f : Int) + (n : Int) = 64) := by omega
        go_wp2_with ((with_reducible show wpList _ _ _ _ _ _); refine wpList_copy_blk rfl (.tmp 31) (.tmp 32) 25 25 rfl Tryd.underlying25 g (8 + f) (64 - f) (64 - f) 118 (hc st o P.length) HB.out (some ⟨g, 8 + f, none⟩) rfl (.slice ao n n) rfl _ HRD.out n HMIN.out (fun _ => rfl) HFIT.out ?_; intro w2 hb2 hg2; have b2 := HCELL.out _ hb2; have c2 := b2.cell 72 _ (hc_size HH.out.words.1 HSO.out.1 _); have f2 := b2.free 72; rw [<- HNN.out] at c2; have B2 := Lib.hid b2; have G2 := Lib.hid (only_trans HG.out hg2); have R2 := Lib.hid (HR.out.grown hg2 (.inr HNE.out)); clear hb2 hg2 b2)
        have hvF := HH.out.part (p := (m.drop k).take n) HRD.out.byte (by rw [HPL2.out, <- HNN.out, <- HF.out]; omega)
        rw [<- HNN.out, <- HF.out, HP.out, List.append_assoc, take_app_drop m k n] at hvF
        have b3 := B2.out.set 72 (.int .i64 ((N : Int) + (n : Int)))
        rw [show ((N : Int) + (n : Int)) = ((N + n : Nat) : Int) by omega, hc_setSize HH.out.words.1 HSO.out.1] at b3
        have g3 := only_set G2.out (p := ⟨g, 72, none⟩) (.inl rfl) (.int .i64 ((N : Int) + (n : Int)))
        have r4 := (R2.out.setCell ⟨g, 72, none⟩ (.int .i64 ((N : Int) + (n : Int))) HNE.out).drop n (by rw [List.length_drop, <- HR0.out]; exact hn3)
        rw [List.length_drop, <- HR0.out, List.drop_drop] at r4
        refine ⟨⟨k + n, ?_, r4, fun _ => owner_cut HNE.out, ⟨st, _, hvF, ?_⟩, g3⟩, ?_⟩
        . have := HR0.out; have := HK.out; omega
        . have h1 : (L ++ m.take (k + n)).length = N + n := by
            rw [List.length_append, List.length_take]; have := HR0.out; have := HK.out; have := HPL.out; have := HNN.out; omega
          rw [h1]; exact b3
        . show r - n < r
          omega
    . obtain rfl : k = m.length := by omega
      go_wp2_with fail
      go_ret
      rw [List.take_length] at hs
      exact ⟨rfl, hs, hg⟩
end Go.Proofs.YtflnodkajhokhaaDoor
namespace Go.Proofs.YtflnodkajhokhaaDoor
open Go.ChangeShapes Go.WideShapes Go.ChangeAt Go.RowKit
open SM
theorem infoHash : (Tryd.prog.info? 118).map (·.size) = some 73 := by kernel_rfl
theorem hc_one (st o : List Nat) (n : Nat) : (hc st o n).toArray.all (·.oneCell') = true := by
  unfold hc row32 row8; simp [Value.oneCell']
theorem zeroHash (w : World) : (zeroValue 118).run Tryd.prog w = .ok (.agg (hc (List.replicate 8 0) (List.replicate 64 0) 0).toArray) w := by kernel_rfl
theorem new_any (w : World) : Calls Tryd.prog 47 #[] w fun e w' => e = .returned (.pointer (some ⟨w.heap.size, 0, none⟩)) /\ Hs w' w.heap.size [] /\ Below w.heap.size w w' := by
  go_enter Tryd.func47, Tryd.ntmps47
  have hz := zeroHash
  go_wp2_with fail
  go_ret
  exact ⟨rfl, ⟨h0, List.replicate 64 0, HV.start, Blk.new w 118 (hc h0 (List.replicate 64 0) 0) _ rfl⟩, (Below.refl _ _).alloc (Nat.le_refl _) _⟩
set_option maxHeartbeats 400000 in
theorem fork_any (g : Nat) (L : List Nat) (w : World) (hs : Hs w g L) : Calls Tryd.prog 70 #[.pointer (some ⟨g, 0, none⟩)] w fun e w' => e = .returned (.pointer (some ⟨w.heap.size, 0, none⟩)) /\ Hs w' w.heap.size L /\ Below w.heap.size w w' := by
  obtain ⟨st, o, hv, hb⟩ := hs
  obtain ⟨C, hC⟩ : ∃ C, C = hc st o L.length := ⟨_, rfl⟩
  have hl : C.length = 73 := by rw [hC]; exact hc_len hv.words.1 hv.open_.1 _
  have h1 : C.toArray.all (·.oneCell') = true := by rw [hC]; exact hc_one _ _ _
  rw [<- hC] at hb
  have HC := Lib.hid hC
  have HL := Lib.hid hl
  have H1 := Lib.hid h1
  have HB := Lib.hid hb
  have HH := Lib.hid hv
  clear hC hl h1 hb hv
  obtain ⟨C0, hC0⟩ : ∃ C0, C0 = hc (List.replicate 8 0) (List.replicate 64 0) 0 := ⟨_, rfl⟩
  have hz : ∀ w, (zeroValue 118).run Tryd.prog w = .ok (.agg C0.toArray) w := by rw [hC0]; exact zeroHash
  have HL0 := Lib.hid (show C0.length = 73 by rw [hC0]; rfl)
  clear hC0
  go_enter Tryd.func70, Tryd.ntmps70
  go_wp2_with (first
    | (refine wpList_load_mid rfl 118 (.tmp 7) rfl g 0 rfl C _ HB.out.range Tryd.underlying118 rfl (by rw [HL.out]; exact infoHash) ?_)
    | (refine wpList_store_mid rfl 118 (.tmp 3) (.tmp 8) rfl w.heap.size 0 C.toArray rfl rfl ((Blk.new w 118 C0 _ rfl).there _ (by rw [List.size_toArray, HL.out, HL0.out])) (by rw [List.size_toArray, HL.out]; exact infoHash) H1.out ?_))
  go_ret
  have b := (Blk.new w 118 C0 _ rfl).whole C (by rw [HL.out, HL0.out])
  exact ⟨rfl, ⟨st, o, HH.out, by rw [<- HC.out]; exact b⟩, below_setCells w.heap.size (Nat.le_refl _) C 0 _ ((Below.refl _ _).alloc (Nat.le_refl _) _)⟩
end Go.Proofs.YtflnodkajhokhaaDoor
namespace Go.Proofs.YtflnodkajhokhaaDoor
open Go.ChangeShapes Go.WideShapes Go.ChangeAt Go.RowKit
open SM
theorem blk_rd {w : World} {g n cap : Nat} {t : TypeId} {l : List Nat} (h : Blk w g t (row8 l)) (hb : ∀ k, gb l k < 256) (hn : n <= l.length) (hc : n <= cap) (hf : l.length <= 140737488355328) : Rd w (.slice (some ⟨g, 0, none⟩) n cap) (l.take n) := by
  have e1 : (l.take n).length = n := by rw [List.length_take]; omega
  refine ⟨gb_take_byte l n hb, by rw [e1]; omega, .inr ⟨_, cap, by rw [e1], by rw [e1]; exact hc, fun j hj => ?_⟩⟩
  rw [gb_take l n j (by omega), Addr.add_mid, Nat.zero_add]
  exact h.cell j _ (row8_val l j (by omega))
def tail0 : List Nat := (List.replicate 72 0).set 0 128
def tail1 (z n : Nat) : List Nat := splice tail0 (1 + z) (be (8 * n) 8)
theorem tail0_b : Bytes 72 tail0 := bytes_set (bytes_zero 72) 0 128 (by omega) (by omega)
theorem tail1_b (z n : Nat) (hz : z <= 63) : Bytes 72 (tail1 z n) := by
  refine ⟨by unfold tail1; rw [splice_len _ _ _ (by rw [tail0_b.1, be_len]; omega)]; exact tail0_b.1, ?_⟩
  unfold tail1 splice
  exact gb_app _ _ (gb_take_byte _ _ tail0_b.2) (gb_app _ _ (be_byte _ _) (fun k => by rw [gb_drop]; exact tail0_b.2 _))
theorem tail0_take (z : Nat) (hz : z <= 63) : tail0.take (1 + z) = 128 :: List.replicate z 0 := by
  unfold tail0
  rw [show (List.replicate 72 0).set 0 128 = 128 :: List.replicate 71 (0 : Nat) from rfl, Nat.add_comm, List.take_succ_cons, List.take_replicate, Nat.min_eq_left (by omega)]
theorem tail1_take (z n : Nat) (hz : z <= 63) : (tail1 z n).take (1 + z + 8) = 128 :: List.replicate z 0 ++ be (8 * n) 8 := by
  have := splice_take tail0 (be (8 * n) 8) (1 + z) (by rw [tail0_b.1, be_len]; omega)
  rw [be_len] at this
  unfold tail1
  rw [this, tail0_take z hz]
theorem text_eq (L : List Nat) : L ++ (128 :: List.replicate (zeros L.length) 0 ++ be (8 * L.length) 8) = text L := by
  unfold text
  rw [List.append_assoc]; rfl
theorem zero72 (w : World) : (zeroValue 143).run Tryd.prog w = .ok (.agg (row8 (List.replicate 72 0)).toArray) w := by kernel_rfl
set_option maxRecDepth 100000 in
set_option maxHeartbeats 1000000 in
theorem end_any (g : Nat) (L : List Nat) (w : World) (hs : Hs w g L) (ht : TabP w) (hgk : g ≠ 0) (hn : L.length <= 1152921504606846976) :
    Calls Tryd.prog 71 #[.pointer (some ⟨g, 0, none⟩)] w fun e w' => (∃ v, e = .returned v) /\ Hs w' g (text L) /\ w.grownBy w' (some g) := by
  have hlt := hs.lt
  obtain ⟨st, o, hv, hb⟩ := hs
  obtain ⟨N, hN⟩ : ∃ N, N = L.length := ⟨_, rfl⟩
  rw [<- hN] at hb hn
  have HB := Lib.hid hb
  have HH := Lib.hid hv
  have HT := Lib.hid ht
  have HN := Lib.hid hN
  have HLT := Lib.hid hlt
  clear hb hv ht hN
  obtain ⟨Z0, hZ0⟩ : ∃ Z0, Z0 = List.replicate 72 0 := ⟨_, rfl⟩
  have hz : ∀ w, (zeroValue 143).run Tryd.prog w = .ok (.agg (row8 Z0).toArray) w := by rw [hZ0]; exact zero72
  have hc0 := (Blk.new w 143 (row8 Z0) _ rfl).cell 0 (.int .u8 0) (by rw [hZ0]; rfl)
  have hf0 := (Blk.new w 143 (row8 Z0) _ rfl).free 0
  have b0 := Blk.new w 143 ((row8 Z0).set 0 (.int .u8 128)) _ rfl
  have b0' : Blk (w.alloc (.cells ((row8 Z0).set 0 (.int .u8 128)).toArray 143)) w.heap.size 143 (row8 tail0) := by
    have e : (row8 Z0).set 0 (.int .u8 128) = row8 tail0 := by rw [hZ0]; rfl
    rw [e] at b0 ⊢; exact b0
  have g0 := HB.out.alloc (.cells ((row8 Z0).set 0 (.int .u8 128)).toArray 143)
  have bb := (Below.refl w.heap.size w).alloc (Nat.le_refl _) (.cells ((row8 Z0).set 0 (.int .u8 128)).toArray 143)
  have hcs := g0.cell 72 _ (hc_size HH.out.words.1 HH.out.open_.1 _)
  have B0 := Lib.hid b0'
  have G0 := Lib.hid g0
  have BB := Lib.hid bb
  clear b0 b0' g0 bb hZ0
  go_enter Tryd.func71, Tryd.ntmps71
  go_upto_region 4 with (fail)
  generalize w.alloc (.cells ((row8 Z0).set 0 (.int .u8 128)).toArray 143) = w1 at *
  clear hz hc0 hf0 hcs
  obtain ⟨z, hz⟩ : ∃ z, z = zeros N := ⟨_, rfl⟩
  have hz1 : ((120 - ((N : Int) + 1) % 64) % 64) = (z : Int) := by rw [hz]; unfold zeros; omega
  have hz2 : z <= 63 := by rw [hz]; have := zeros_le N; omega
  rw [hz1]
  have HZ := Lib.hid hz
  clear hz hz1
  obtain ⟨tb, htb⟩ : ∃ tb, tb = w.heap.size := ⟨_, rfl⟩
  rw [<- htb] at hlt B0 ⊢
  have HTB := Lib.hid htb
  clear htb
  have L73 := Lib.hid (hc_len HH.out.words.1 HH.out.open_.1 N)
  have HC := Lib.hid (show splice (row8 tail0) (1 + z) (row8 ((be (8 * N) 8).take 8)) = row8 (tail1 z N) by
    rw [List.take_of_length_le (by rw [be_len]; exact Nat.le_refl _)]; unfold tail1; rw [row8_splice])
  have hI : ∀ (W W' : World) (cs : List Value), (Blk W tb 143 cs /\ Blk W g 118 (hc st o N) /\ Below w.heap.size w W) -> Below W.heap.size W W' -> (Blk W' tb 143 cs /\ Blk W' g 118 (hc st o N) /\ Below w.heap.size w W') :=
    fun W W' cs h hB => ⟨h.1.below hB h.1.lt, h.2.1.below hB h.2.1.lt, h.2.2.on hB⟩
  have HI := Lib.hid hI
  clear hI
  refine wp_region_turn (by kernel_rfl) (by kernel_rfl) [.val (.int .i64 (z : Int)), .val (.int .i64 (1 + (z : Int))), .val (.int .i64 (z : Int)), .val (.int .i64 (1 + (z : Int))), .val (.slice (some ⟨tb, 1 + z, none⟩) (72 - (1 + z)) (72 - (1 + z))), .val (.pointer (some ⟨g, 0, none⟩)), .val (.pointer (some ⟨g, 0, none⟩)), .val (.pointer (some ⟨g, 72, none⟩)), .val (.int .i64 (N : Int)), .val (.int .u64 (N : Int)), .val (.int .u64 ((8 * N : Nat) : Int)), .rd (be (8 * N) 8), .val (.int .i64 8), .val (.int .i64 (1 + (z : Int) + 8)), .val (.int .i64 (1 + (z : Int) + 8))] tb 12 (by decide) (fun b W => Blk W tb 143 (row8 (if b then tail1 z N else tail0)) /\ Blk W g 118 (hc st o N) /\ Below w.heap.size w W) ⟨B0.out.drew, G0.out.drew, BB.out.drew⟩ ?_ ?_
  . refine ⟨?_, ?_, ?_, ?_, ?_, ?_, ?_, ?_, ?_, ?_, ?_, ?_, ?_, ?_, ?_, trivial⟩
    . intro a W b hF hG hW hm hd
      exact turns_val rfl (ex_move rfl (hF 4 (by decide +kernel))) (by simpa using hW) rfl
    . intro a W b hF hG hW hm hd
      have e16 : a.eval (.tmp 16) = .int .i64 (z : Int) := hd 0 (by decide +kernel)
      exact turns_val rfl (ex_binOp rfl rfl e16 (by go_simp) (by go_simp; exact wraps_i64' _ (by omega) (by omega))) (by simpa using hW) rfl
    . intro a W b hF hG hW hm hd
      exact turns_val rfl (ex_move rfl (hF 4 (by decide +kernel))) (by simpa using hW) rfl
    . intro a W b hF hG hW hm hd
      have e18 : a.eval (.tmp 18) = .int .i64 (z : Int) := hd 2 (by decide +kernel)
      exact turns_val rfl (ex_binOp rfl rfl e18 (by go_simp) (by go_simp; exact wraps_i64' _ (by omega) (by omega))) (by simpa using hW) rfl
    . intro a W b hF hG hW hm hd
      have e19 : a.eval (.tmp 19) = .int .i64 (1 + (z : Int)) := hd 3 (by decide +kernel)
      have e2 : a.eval (.tmp 2) = .pointer (some ⟨tb, 0, none⟩) := hF 2 (by decide +kernel)
      have q0 : (0 : Int) <= 1 + (z : Int) := by omega
      have q1 : 1 + (z : Int) <= 72 := by omega
      have q2 : (1 + (z : Int)).toNat = 1 + z := by omega
      have q3 : ¬ (72 = 1 + z) := by omega
      have f19 : a.tmps[19]?.getD undef = .int .i64 (1 + (z : Int)) := by rw [<- Array.getD_eq_getD_getElem?]; exact e19
      exact turns_val rfl (v := .slice (some ⟨tb, 1 + z, none⟩) (72 - (1 + z)) (72 - (1 + z))) (by unfold execOp; simp only [e2]; go_simp) (by simpa using hW) rfl
    . intro a W b hF hG hW hm hd
      exact turns_val rfl (ex_move rfl (hF 0 (by decide +kernel))) (by simpa using hW) rfl
    . intro a W b hF hG hW hm hd
      have e21 : a.eval (.tmp 21) = .pointer (some ⟨g, 0, none⟩) := hd 5 (by decide +kernel)
      exact turns_val rfl (by unfold execOp; simp only [e21]; go_simp) (by simpa using hW) rfl
    . intro a W b hF hG hW hm hd
      have e22 : a.eval (.tmp 22) = .pointer (some ⟨g, 0, none⟩) := hd 6 (by decide +kernel)
      exact turns_val rfl (by unfold execOp; simp only [e22]; go_simp) (by simpa using hW) rfl
    . intro a W b hF hG hW hm hd
      have e23 : a.eval (.tmp 23) = .pointer (some ⟨g, 72, none⟩) := hd 7 (by decide +kernel)
      have hcs := hW.2.1.cell 72 _ (hc_size HH.out.words.1 HH.out.open_.1 _)
      exact turns_val rfl (by unfold execOp; simp only [e23]; go_simp) (by simpa using hW) rfl
    . intro a W b hF hG hW hm hd
      have e24 : a.eval (.tmp 24) = .int .i64 (N : Int) := hd 8 (by decide +kernel)
      exact turns_val rfl (ex_convert rfl e24 (by go_simp; rw [IntKind.wrap_u64]; omega)) (by simpa using hW) rfl
    . intro a W b hF hG hW hm hd
      have e25 : a.eval (.tmp 25) = .int .u64 (N : Int) := hd 9 (by decide +kernel)
      exact turns_val rfl (ex_binOp rfl rfl e25 (by go_simp) (by go_simp; rw [IntKind.wrap_u64]; omega)) (by simpa using hW) rfl
    . intro a W b hF hG hW hm hd
      have e26 : a.eval (.tmp 26) = .int .u64 ((8 * N : Nat) : Int) := hd 10 (by decide +kernel)
      exact turns_call rfl (ex_call (vs := #[.int .u64 ((8 * N : Nat) : Int)]) rfl (by simp only [List.map_toArray, List.map_cons, List.map_nil, e26]) (by go_simp)) ((put64_any (8 * N) (by omega) W).mono fun e w' h => by
        obtain ⟨v, rfl, ho, hB⟩ := h
        refine ⟨v, rfl, ⟨ho.rd, fun q => ?_⟩, hB, by simpa using HI.out W w' _ hW hB⟩
        have := (ho.from _ q).1
        have := hW.1.lt
        omega)
    . intro a W b hF hG hW hm hd
      obtain rfl := hm rfl
      have e20 : a.eval (.tmp 20) = .slice (some ⟨tb, 1 + z, none⟩) (72 - (1 + z)) (72 - (1 + z)) := hd 4 (by decide +kernel)
      have e27 : Rd W (a.eval (.tmp 27)) (be (8 * N) 8) /\ _ := hd 11 (by decide +kernel)
      refine ⟨rfl, fun K hK => wp_copy_blk (.tmp 20) (.tmp 27) 25 25 rfl Tryd.underlying25 tb (1 + z) (72 - (1 + z)) (72 - (1 + z)) 143 (row8 tail0) hW.1 (some ⟨tb, 1 + z, none⟩) e20 _ rfl (be (8 * N) 8) e27.1 8 (by rw [be_len]; omega) (fun _ => rfl) (by rw [row8_len, tail0_b.1]; omega) fun w' hb hg => hK _ w' hg ⟨?_, ?_, ?_⟩ rfl⟩
      . rw [HC.out] at hb; exact hb
      . exact hW.2.1.grown hg (fun q => by have := HLT.out; have := HTB.out; have := Option.some.inj q; omega)
      . exact hW.2.2.grown hg hW.2.2.size (fun k hk => by have := HTB.out; have := Option.some.inj hk; omega)
    . intro a W b hF hG hW hm hd
      have e17 : a.eval (.tmp 17) = .int .i64 (1 + (z : Int)) := hd 1 (by decide +kernel)
      have e28 : a.eval (.tmp 28) = .int .i64 8 := hd 12 (by decide +kernel)
      exact turns_val rfl (ex_binOp rfl e17 e28 (by go_simp) (by go_simp; exact wraps_i64' _ (by omega) (by omega))) (by simpa using hW) rfl
    . intro a W b hF hG hW hm hd
      have e29 : a.eval (.tmp 29) = .int .i64 (1 + (z : Int) + 8) := hd 13 (by decide +kernel)
      exact turns_val rfl (ex_assign rfl e29) (by simpa using hW) rfl
  . intro vs W hG hW hv
    replace hW : Blk W tb 143 (row8 (tail1 z N)) /\ Blk W g 118 (hc st o N) /\ Below w.heap.size w W := hW
    have e5 : vs 14 = .int .i64 (1 + (z : Int) + 8) := hv 14 (by decide)
    simp only [putOps, Act.put, List.setIfInBounds_toArray, List.set_cons_zero, List.set_cons_succ, e5]
    have ht1 := tail1_b z N hz2
    have hr := blk_rd hW.1 ht1.2 (n := 1 + z + 8) (cap := 72) (by rw [ht1.1]; omega) (by omega) (by rw [ht1.1]; omega)
    rw [tail1_take z N hz2] at hr
    have hsW : Hs W g L := ⟨st, o, HH.out, by rw [<- HN.out]; exact hW.2.1⟩
    have htW : TabP W := HT.out.below (hW.2.2)
    have hne : (Value.slice (some ⟨tb, 0, none⟩) (1 + z + 8) 72).ownBlock ≠ some g := fun q => by
      have := HLT.out; have := HTB.out; have : tb = g := Option.some.inj q; omega
    have hlen : (128 :: List.replicate z 0 ++ be (8 * N) 8).length <= 72 := by rw [List.length_append, be_len]; simp; omega
    have hw := write_any g L _ _ W hr (fun _ => hne) hsW htW hgk (by rw [<- HN.out]; omega)
    have HWR := Lib.hid hw
    have HBW := Lib.hid hW.2.2
    have q1 : 1 + (z : Int) + 8 <= 72 := by omega
    have q0 : (0 : Int) <= 1 + (z : Int) + 8 := by omega
    have q2 : (1 + (z : Int) + 8).toNat = 1 + z + 8 := by omega
    clear hv hW hr hsW htW hne hw hlen ht1 hG e5
    go_wp2_with (go_at_call 48; refine HWR.out.mono ?_; rintro e w' ⟨rfl, h1, h2⟩; have H1 := Lib.hid h1; have H2 := Lib.hid h2; clear h1 h2)
    have h1 := H1.out
    rw [HN.out, HZ.out, HN.out, text_eq] at h1
    have h2 : w.grownBy w' (some g) := only_trans (grown_of_below HBW.out _) H2.out
    go_end0
    exact ⟨⟨_, rfl⟩, h1, h2⟩
end Go.Proofs.YtflnodkajhokhaaDoor
namespace Go.Proofs.YtflnodkajhokhaaDoor
open Go.ChangeShapes Go.WideShapes Go.ChangeAt Go.RowKit
open SM
theorem zeroSum (w : World) : (zeroValue 35).run Tryd.prog w = .ok (.agg (row8 (List.replicate 32 0)).toArray) w := by kernel_rfl
theorem gb_splice (l p : List Nat) (off k : Nat) (h : off + p.length <= l.length) : gb (splice l off p) k = if k < off then gb l k else if k < off + p.length then gb p (k - off) else gb l k := by
  unfold splice gb
  rw [List.getD_eq_getElem?_getD, List.getD_eq_getElem?_getD, List.getD_eq_getElem?_getD]
  by_cases h1 : k < off
  . rw [if_pos h1, List.getElem?_append_left (by rw [List.length_take]; omega), List.getElem?_take, if_pos h1]
  . rw [if_neg h1, List.getElem?_append_right (by rw [List.length_take]; omega), List.length_take, Nat.min_eq_left (by omega)]
    by_cases h2 : k < off + p.length
    . rw [if_pos h2, List.getElem?_append_left (by omega)]
    . rw [if_neg h2, List.getElem?_append_right (by omega), List.getElem?_drop]
      congr 2; omega
theorem outK_word (st : List Nat) (j : Nat) (hj : j < 8) : splice (outK st (4 * j)) (4 * j) (be (gb st j) 4) = outK st (4 * (j + 1)) := by
  apply bytes_ext (n := 32) (by rw [splice_len _ _ _ (by rw [outK_len, be_len]; omega), outK_len]) (outK_len _ _)
  intro k hk
  rw [gb_splice _ _ _ _ (by rw [outK_len, be_len]; omega), be_len]
  unfold outK
  rw [gb_map, gb_map, if_pos hk, if_pos hk]
  by_cases h1 : k < 4 * j
  . rw [if_pos h1, if_pos h1, if_pos (by omega)]
  . rw [if_neg h1]
    by_cases h2 : k < 4 * j + 4
    . have e1 : k / 4 = j := by omega
      rw [if_pos h2, if_pos (by omega), e1]
      unfold be
      rw [gb_map, if_pos (by omega)]
      have e2 : (256 : Nat) ^ (4 - 1 - (k - 4 * j)) = 2 ^ (24 - 8 * (k % 4)) := by
        rw [show (256 : Nat) = 2 ^ 8 from rfl, <- Nat.pow_mul]
        congr 1; omega
      rw [e2]
    . rw [if_neg h2, if_neg h1, if_neg (by omega)]
theorem fork_ex (g : Nat) (L : List Nat) (w : World) (hs : Hs w g L) : Calls Tryd.prog 70 #[.pointer (some ⟨g, 0, none⟩)] w fun e w' => ∃ f, f = w.heap.size /\ e = .returned (.pointer (some ⟨f, 0, none⟩)) /\ Hs w' f L /\ Below w.heap.size w w' :=
  (fork_any g L w hs).mono fun _ _ h => ⟨_, rfl, h⟩
set_option maxRecDepth 100000 in
set_option maxHeartbeats 1000000 in
theorem sum_any (g : Nat) (L : List Nat) (w : World) (hs : Hs w g L) (ht : TabP w) (hn : L.length <= 1152921504606846976) :
    Calls Tryd.prog 49 #[.pointer (some ⟨g, 0, none⟩)] w fun e w' => e = .returned (.agg (row8 (sha L)).toArray) /\ Below w.heap.size w w' := by
  have hlt := hs.lt
  have hs1 := hs.alloc (.cells (row8 (List.replicate 32 0)).toArray 35)
  have bb1 := (Below.refl w.heap.size w).alloc (Nat.le_refl _) (.cells (row8 (List.replicate 32 0)).toArray 35)
  have r1 := Blk.new w 35 (row8 (List.replicate 32 0)) _ rfl
  have HS1 := Lib.hid hs1
  have BB1 := Lib.hid bb1
  have R1 := Lib.hid r1
  have HT := Lib.hid ht
  have HSL := Lib.hid hlt
  clear hs hs1 bb1 r1 ht hlt
  obtain ⟨S, hS⟩ : ∃ S, S = sha L := ⟨_, rfl⟩
  obtain ⟨T, hT⟩ : ∃ T, T = text L := ⟨_, rfl⟩
  rw [<- hS]
  have HSS := Lib.hid hS
  have HTX := Lib.hid hT
  clear hS hT
  have HEND := Lib.hid (show ∀ (f : Nat) (W : World), Hs W f L -> TabP W -> f ≠ 0 -> Calls Tryd.prog 71 #[.pointer (some ⟨f, 0, none⟩)] W fun e w' => (∃ v, e = .returned v) /\ Hs w' f T /\ W.grownBy w' (some f) from fun f W h1 h2 h3 => by rw [HTX.out]; exact end_any f L W h1 h2 h3 hn)
  go_enter Tryd.func49, Tryd.ntmps49
  go_wp2_with (first
    | (go_at_call 70; refine (fork_ex g L _ HS1.out).mono ?_; rintro e w2 ⟨f, hf, rfl, h2, b2⟩; have HF := Lib.hid hf; clear hf; have H2 := Lib.hid h2; have BB2 := Lib.hid (BB1.out.on b2); have R2 := Lib.hid (R1.out.below b2 R1.out.lt); clear h2 b2)
    | (go_at_call 71; refine (HEND.out _ _ H2.out (HT.out.below BB2.out) (by have := HT.out.lt; have := HF.out; simp at this; omega)).mono ?_; rintro e w3 ⟨⟨v3, rfl⟩, ⟨st, o, hv3, hb3⟩, g3⟩; have H3 := Lib.hid hv3; have B3 := Lib.hid hb3; have BB3 := Lib.hid (BB2.out.grown g3 BB2.out.size (fun k hk => by have := Option.some.inj hk; have := HF.out; simp at this; omega)); have R3 := Lib.hid (R2.out.grown g3 (fun q => by have := Option.some.inj q; have := HF.out; simp at this; omega)); clear hv3 hb3 g3)
    | (refine wpList_load_mid rfl 114 (.tmp 16) rfl f 0 rfl (row32 st) _ (range_part (B3.out.alloc _) 0 _ (fun j v => hc_state H3.out.words.1 _ j v)) Tryd.underlying114 rfl (by rw [row32_len, H3.out.words.1]; exact infoSt) ?_))
  have n3 := Blk.new w3 35 (row8 (List.replicate 32 0)) _ rfl
  have r3 := R3.out.alloc (.cells (row8 (List.replicate 32 0)).toArray 35)
  have bb3 := BB3.out.alloc BB3.out.size (.cells (row8 (List.replicate 32 0)).toArray 35)
  have hsb : w.heap.size < w3.heap.size := R3.out.lt
  obtain ⟨sb, hsbe⟩ : ∃ sb, sb = w3.heap.size := ⟨_, rfl⟩
  rw [<- hsbe] at n3 hsb ⊢
  have N3 := Lib.hid n3
  have RR3 := Lib.hid r3
  have BBB3 := Lib.hid bb3
  have HSW := Lib.hid H3.out.words
  have HST := Lib.hid H3.out.st_
  clear n3 r3 bb3 hsbe H2 BB2 R2 B3 BB3 R3 HS1 BB1 R1 H3 HEND
  go_loopw [18] (fun i wr => ∃ j : Nat, j <= 8 /\ i = .int .i64 (j : Int) /\ Blk wr w.heap.size 35 (row8 (List.replicate 32 0)) /\ Blk wr sb 35 (row8 (outK st (4 * j))) /\ Below w.heap.size w wr) (fun i _ => 8 - (intOf i).toNat)
  case atStart => exact ⟨0, Nat.zero_le _, rfl, RR3.out, by rw [Nat.mul_zero, outK_zero]; exact N3.out, BBB3.out⟩
  case round =>
    clear N3 RR3 BBB3
    obtain ⟨j, hj, rfl, r0, n0, b0⟩ := hrel
    by_cases hjt : j < 8
    . have hix := run_index_row 114 34 8 (row32 st).toArray j (.int .u32 ((gb st j : Nat) : Int)) Tryd.underlying114 hjt infoW1 aggW1 (by have := row32_val st j (by rw [HSW.out.1]; omega); simpa using this)
      obtain ⟨x, hx⟩ : ∃ x, x = gb st j := ⟨_, rfl⟩
      have hxw : x < 4294967296 := by rw [hx]; exact HSW.out.2 j
      rw [<- hx] at hix
      have R0 := Lib.hid r0
      have N0 := Lib.hid n0
      have B0 := Lib.hid b0
      have HX := Lib.hid hx
      have HW := Lib.hid (outK_word st j hjt)
      clear r0 n0 b0 hx
      go_upto_region 9 with (fail)
      refine wp_region_tail (by kernel_rfl) 5 (by decide) (by kernel_rfl) (by kernel_rfl) (by kernel_rfl) [.val (.int .i64 (j : Int)), .val (.int .i64 (4 * (j : Int))), .val (.slice (some ⟨sb, 4 * j, none⟩) (32 - 4 * j) (32 - 4 * j)), .val (.int .u32 (x : Int)), .rd (be x 4)] ?_ ?_
      . refine ⟨?_, ?_, ?_, ?_, ?_, trivial⟩
        . intro a W hF hB hd
          exact does_val rfl (ex_move rfl (hF 5 (by decide +kernel))) rfl
        . intro a W hF hB hd
          have e22 : a.eval (.tmp 22) = .int .i64 (j : Int) := hd 0 (by decide +kernel)
          exact does_val rfl (ex_binOp rfl rfl e22 (by go_simp) (by go_simp; exact wraps_i64' _ (by omega) (by omega))) rfl
        . intro a W hF hB hd
          have e23 : a.eval (.tmp 23) = .int .i64 (4 * (j : Int)) := hd 1 (by decide +kernel)
          have e4 : a.eval (.tmp 4) = .pointer (some ⟨sb, 0, none⟩) := hF 4 (by decide +kernel)
          have f23 : a.tmps[23]?.getD undef = .int .i64 (4 * (j : Int)) := by rw [<- Array.getD_eq_getD_getElem?]; exact e23
          have q0 : (0 : Int) <= 4 * (j : Int) := by omega
          have q1 : 4 * (j : Int) <= 32 := by omega
          have q2 : (4 * (j : Int)).toNat = 4 * j := by omega
          have q3 : ¬ (32 = 4 * j) := by omega
          exact does_val rfl (v := .slice (some ⟨sb, 4 * j, none⟩) (32 - 4 * j) (32 - 4 * j)) (by unfold execOp; simp only [e4]; go_simp) rfl
        . intro a W hF hB hd
          exact does_val rfl (ex_move rfl (hF 6 (by decide +kernel))) rfl
        . intro a W hF hB hd
          have e25 : a.eval (.tmp 25) = .int .u32 (x : Int) := hd 3 (by decide +kernel)
          exact does_call rfl (ex_call (vs := #[.int .u32 (x : Int)]) rfl (by simp only [List.map_toArray, List.map_cons, List.map_nil, e25]) (by go_simp)) ((put32_any x hxw W).mono fun e w' h => by
            obtain ⟨v, rfl, ho, hB⟩ := h
            exact ⟨v, rfl, ho.rd, hB⟩)
      . intro vs W hB hv
        have e2 : vs 2 = .slice (some ⟨sb, 4 * j, none⟩) (32 - 4 * j) (32 - 4 * j) := hv 2 (by omega)
        have e4 : Rd W (vs 4) (be x 4) := hv 4 (by omega)
        simp only [List.take_succ_cons, List.take_zero, List.drop_succ_cons, List.drop_zero, putOps, Act.put, List.setIfInBounds_toArray, List.set_cons_zero, List.set_cons_succ, e2]
        have E4 := Lib.hid e4
        have r1 := Lib.hid (R0.out.below hB R0.out.lt)
        have n1 := Lib.hid (N0.out.below hB N0.out.lt)
        have b1 := Lib.hid (B0.out.on hB)
        have HK := Lib.hid (show (4 : Nat) = min (be x 4).length (32 - 4 * j) by rw [be_len]; omega)
        have HFI := Lib.hid (show 4 * j + 4 <= (row8 (outK st (4 * j))).length by rw [row8_len, outK_len]; omega)
        have HSP := Lib.hid (show splice (row8 (outK st (4 * j))) (4 * j) (row8 ((be x 4).take 4)) = row8 (outK st (4 * (j + 1))) by
          rw [List.take_of_length_le (by rw [be_len]; exact Nat.le_refl _), <- row8_splice, HX.out, HW.out])
        generalize vs 4 = y at *
        clear hv e2 e4 hB
        go_wp2_with ((with_reducible show wpList _ _ _ _ _ _); refine wpList_copy_blk rfl (.tmp 24) (.tmp 26) 25 25 rfl Tryd.underlying25 sb (4 * j) (32 - 4 * j) (32 - 4 * j) 35 (row8 (outK st (4 * j))) n1.out (some ⟨sb, 4 * j, none⟩) rfl y rfl (be x 4) E4.out 4 HK.out (fun _ => rfl) HFI.out ?_; intro w5 hb5 hg5; rw [HSP.out] at hb5; have N5 := Lib.hid hb5; have R5 := Lib.hid (r1.out.grown hg5 (fun q => by have := Option.some.inj q; omega)); have B5 := Lib.hid (b1.out.grown hg5 b1.out.size (fun k hk => by have := Option.some.inj hk; omega)); clear hb5 hg5)
        exact ⟨⟨j + 1, by omega, by go_num, R5.out, N5.out, B5.out⟩, by simp [intOf]; omega⟩
    . obtain rfl : j = 8 := by omega
      have hsha : S = out st := by rw [HSS.out, HST.out, HTX.out]; rfl
      rw [outK_all, <- hsha] at n0
      have H32 := Lib.hid (show (row8 S).length = 32 by rw [hsha, row8_len, <- outK_all, outK_len])
      have R0 := Lib.hid r0
      have N0 := Lib.hid n0
      have B0 := Lib.hid b0
      clear r0 n0 b0 hsha
      go_wp2_with (first | (refine wpList_load_mid rfl 35 (.tmp 4) rfl sb 0 rfl (row8 S) _ N0.out.range Tryd.underlying35 rfl (by rw [H32.out]; exact infoS) ?_) | (refine wpList_store_mid rfl 35 (.tmp 2) (.tmp 29) rfl w.heap.size 0 (row8 S).toArray rfl rfl (R0.out.there _ (by rw [List.size_toArray, H32.out]; rfl)) (by rw [List.size_toArray, H32.out]; exact infoS) (row8_one _) ?_))
      have fin := R0.out.whole (row8 S) (by rw [H32.out]; rfl)
      exact bodyPost_ret (v := .agg (row8 S).toArray) (results_mid rfl _ _ w.heap.size (row8 S) _ rfl fin.range Tryd.underlying35 rfl (by rw [H32.out]; exact infoS)) rfl ⟨rfl, below_setCells w.heap.size (Nat.le_refl _) _ 0 _ B0.out⟩
end Go.Proofs.YtflnodkajhokhaaDoor
namespace Go.Proofs.YtflnodkajhokhaaDoor
open Go.ChangeShapes Go.WideShapes Go.ChangeAt Go.RowKit
open SM
theorem new_ex (w : World) : Calls Tryd.prog 47 #[] w fun e w' => ∃ h, h = w.heap.size /\ e = .returned (.pointer (some ⟨h, 0, none⟩)) /\ Hs w' h [] /\ Below w.heap.size w w' :=
  (new_any w).mono fun _ _ h => ⟨_, rfl, h⟩
set_option maxRecDepth 100000 in
set_option maxHeartbeats 1000000 in
theorem of_any (ls : List (List Nat)) (hn : ls.flatten.length <= 1152921504606846976) (v : Value) (w : World) (hv : Rds w v ls) (ht : TabP w) :
    Calls Tryd.prog 28 #[v] w fun e w' => e = .returned (.agg (row8 (sha ls.flatten)).toArray) /\ Below w.heap.size w w' := by
  obtain ⟨ao, cap, rfl, hcap⟩ := hv.shape
  have HV := Lib.hid hv
  have HT := Lib.hid ht
  have HFI := hv.fits
  have bb1 := (Below.refl w.heap.size w).alloc (Nat.le_refl _) (.cells (row8 (List.replicate 32 0)).toArray 35)
  have r1 := Blk.new w 35 (row8 (List.replicate 32 0)) _ rfl
  have BB1 := Lib.hid bb1
  have R1 := Lib.hid r1
  clear hv ht bb1 r1
  obtain ⟨S, hS⟩ : ∃ S, S = sha ls.flatten := ⟨_, rfl⟩
  rw [<- hS]
  have HSS := Lib.hid hS
  clear hS
  go_enter Tryd.func28, Tryd.ntmps28
  go_wp2_with (go_at_call 47; refine (new_ex _).mono ?_; rintro e w2 ⟨h, hh, rfl, h2, b2⟩; have HH := Lib.hid hh; clear hh; have H2 := Lib.hid h2; have BB2 := Lib.hid (BB1.out.on b2); have R2 := Lib.hid (R1.out.below b2 R1.out.lt); clear h2 b2)
  go_loopw [9] (fun i wr => ∃ k : Nat, k <= ls.length /\ i = .int .i64 (k : Int) /\ Hs wr h (ls.take k).flatten /\ Blk wr w.heap.size 35 (row8 (List.replicate 32 0)) /\ Below w.heap.size w wr) (fun i _ => ls.length - (intOf i).toNat)
  case atStart => exact ⟨0, Nat.zero_le _, rfl, H2.out, R2.out, BB2.out⟩
  case round =>
    clear H2 R2 BB2 R1 BB1
    obtain ⟨k, hk, rfl, hs, r0, b0⟩ := hrel
    have hh1 : h = w.heap.size + 1 := by have := HH.out; simpa using this
    have hgk : h ≠ 0 := by have := HT.out.lt; omega
    by_cases hlt : k < ls.length
    . obtain ⟨ad, x, rfl, hc, hr⟩ := (HV.out.below b0).at_ k hlt
      obtain ⟨_, x', e1, hc', hr'⟩ := HV.out.at_ k hlt
      cases e1
      have hxx : x' = x := Option.some.inj ((cell_below hc' b0).symm.trans hc)
      subst hxx
      have hne : 0 < ls[k].length -> x'.ownBlock ≠ some h := fun hl => hr'.old hl h (by omega)
      have hle : (ls.take k).flatten.length + ls[k].length <= 1152921504606846976 := by
        have h1 := congrArg List.length (flat_take ls k hlt)
        rw [List.length_append] at h1
        have := flat_le ls (k + 1)
        omega
      have HW := Lib.hid (write_any h _ _ x' wr hr hne hs (HT.out.below b0) hgk (by omega))
      have HFT := Lib.hid (flat_take ls k hlt)
      have R0 := Lib.hid r0
      have B0 := Lib.hid b0
      have HH1 := Lib.hid hh1
      clear hr hr' hne hs r0 b0 hc' hle hh1
      go_wp2_with (go_at_call 48; refine HW.out.mono ?_; rintro e w3 ⟨rfl, h3, g3⟩; rw [HFT.out] at h3; have H3 := Lib.hid h3; have R3 := Lib.hid (R0.out.grown g3 (fun q => by have := Option.some.inj q; have := HH1.out; omega)); have B3 := Lib.hid (B0.out.grown g3 B0.out.size (fun j hj => by have := Option.some.inj hj; have := HH1.out; omega)); clear h3 g3)
      exact ⟨⟨k + 1, by omega, by go_num, H3.out, R3.out, B3.out⟩, by simp [intOf]; omega⟩
    . obtain rfl : k = ls.length := by omega
      rw [List.take_length] at hs
      have HS := Lib.hid (sum_any h _ wr hs (HT.out.below b0) hn)
      rw [<- HSS.out] at HS
      have H32 := Lib.hid (show (row8 S).length = 32 by rw [HSS.out, row8_len]; show (out _).length = 32; rw [<- outK_all, outK_len])
      have R0 := Lib.hid r0
      have B0 := Lib.hid b0
      clear r0 b0 hs hh1
      go_wp2_with (first
        | (go_at_call 49; refine HS.out.mono ?_; rintro e w4 ⟨rfl, b4⟩; have R4 := Lib.hid (R0.out.below b4 R0.out.lt); have B4 := Lib.hid (B0.out.on b4); clear b4)
        | (refine wpList_store_mid rfl 35 (.tmp 2) (.tmp 18) rfl w.heap.size 0 (row8 S).toArray rfl rfl (R4.out.there _ (by rw [List.size_toArray, H32.out]; rfl)) (by rw [List.size_toArray, H32.out]; exact infoS) (row8_one _) ?_))
      have fin := R4.out.whole (row8 S) (by rw [H32.out]; rfl)
      exact bodyPost_ret (v := .agg (row8 S).toArray) (results_mid rfl _ _ w.heap.size (row8 S) _ rfl fin.range Tryd.underlying35 rfl (by rw [H32.out]; exact infoS)) rfl ⟨rfl, below_setCells w.heap.size (Nat.le_refl _) _ 0 _ B4.out⟩
end Go.Proofs.YtflnodkajhokhaaDoor
namespace Go.Proofs.YtflnodkajhokhaaDoor
open Go.ChangeShapes Go.WideShapes Go.ChangeAt Go.RowKit
open SM
theorem sha_len (l : List Nat) : (sha l).length = 32 := by
  show (out _).length = 32
  rw [<- outK_all, outK_len]
theorem sha_bytes (l : List Nat) : Bytes 32 (sha l) := by
  refine ⟨sha_len l, fun k => ?_⟩
  show gb (out _) k < 256
  unfold out
  rw [gb_map]; split
  . exact Nat.mod_lt _ (by omega)
  . omega
theorem rds_one {w : World} {x : Value} {l : List Nat} (h : Rd w x l) {b : Nat} (hb : b = w.heap.size) : Rds (w.alloc (.cells #[x] 25)) (.slice (some ⟨b, 0, none⟩) 1 1) [l] := by
  subst hb
  refine ⟨by simp, .inr ⟨_, 1, rfl, Nat.le_refl _, fun j l' hj => ?_⟩⟩
  cases j with
  | zero =>
    simp at hj; subst hj
    exact ⟨x, (Blk.new w 25 [x] _ rfl).cell 0 x rfl, h.alloc _⟩
  | succ j => simp at hj
theorem sizeB (w : World) : (sizeOf 5).run Tryd.prog w = .ok 1 w := by kernel_rfl
theorem eqTypeS : Tryd.prog.eqGuardType Tryd.prog.depth 35 = false := by kernel_rfl
theorem run_eql_sum {x y : List Nat} (hx : Bytes 32 x) (hy : Bytes 32 y) (w : World) : (binOp .eql 35 (.agg (row8 x).toArray) (.agg (row8 y).toArray)).run Tryd.prog w = .ok (.bool (decide (x = y))) w :=
  run_eql_row 35 5 32 Tryd.underlying35 Tryd.underlying5 sizeB x y hx hy w
theorem run_neq_sum {x y : List Nat} (hx : Bytes 32 x) (hy : Bytes 32 y) (w : World) : (binOp .neq 35 (.agg (row8 x).toArray) (.agg (row8 y).toArray)).run Tryd.prog w = .ok (.bool (!decide (x = y))) w := by
  have h := run_eql_sum hx hy w
  simp only [binOp, Sem.run_bind, Sem.run_pure] at h ⊢
  cases q : (Op.equal 35 (.agg (row8 x).toArray) (.agg (row8 y).toArray)).run Tryd.prog w with
  | ok b w' =>
    rw [q] at h
    simp only [Result.andThen_ok, Result.ok.injEq, Value.bool.injEq] at h ⊢
    exact ⟨by rw [h.1], h.2⟩
  | _ => rw [q] at h; simp [Result.andThen] at h
theorem own_turn {a w w' : World} {o : Obj} (h : Below a.heap.size a w) (hg : (w.alloc o).grownBy w' (some w.heap.size)) : Below a.heap.size a w' :=
  (h.alloc h.size o).grown hg (by have := h.size; simp; omega) (fun k hk => by have := Option.some.inj hk; have := h.size; omega)
end Go.Proofs.YtflnodkajhokhaaDoor
namespace Go.Proofs.YtflnodkajhokhaaDoor
open Go.ChangeShapes Go.WideShapes Go.ChangeAt Go.RowKit
open SM
theorem rds_two {w : World} {x y : Value} {l m : List Nat} (h : Rd w x l) (k : Rd w y m) {b : Nat} (hb : b = w.heap.size) : Rds (w.alloc (.cells #[x, y] 25)) (.slice (some ⟨b, 0, none⟩) 2 2) [l, m] := by
  subst hb
  refine ⟨by simp, .inr ⟨_, 2, rfl, Nat.le_refl _, fun j l' hj => ?_⟩⟩
  match j, hj with
  | 0, hj => simp at hj; subst hj; exact ⟨x, (Blk.new w 25 [x, y] _ rfl).cell 0 x rfl, h.alloc _⟩
  | 1, hj => simp at hj; subst hj; exact ⟨y, (Blk.new w 25 [x, y] _ rfl).cell 1 y rfl, k.alloc _⟩
  | j + 2, hj => simp at hj
theorem of_two {w : World} {x y : Value} {l m S : List Nat} (h : Rd w x l) (k : Rd w y m) (ht : TabP w) (hn : l.length + m.length <= 1152921504606846976) (hS : S = sha (l ++ m)) :
    Calls Tryd.prog 28 #[.slice (some ⟨w.heap.size, 0, none⟩) 2 2] (w.alloc (.cells #[x, y] 25)) fun e w' => e = .returned (.agg (row8 S).toArray) /\ Below w.heap.size w w' := by
  have e : [l, m].flatten = l ++ m := by simp
  have b := (Below.refl w.heap.size w).alloc (Nat.le_refl _) (.cells #[x, y] 25)
  have h1 := of_any [l, m] (by rw [e, List.length_append]; exact hn) _ _ (rds_two h k rfl) (ht.below b)
  rw [e, <- hS] at h1
  exact h1.mono fun _ _ q => ⟨q.1, b.on q.2⟩
theorem of_one {w : World} {x : Value} {l S : List Nat} (h : Rd w x l) (ht : TabP w) (hn : l.length <= 1152921504606846976) (hS : S = sha l) :
    Calls Tryd.prog 28 #[.slice (some ⟨w.heap.size, 0, none⟩) 1 1] (w.alloc (.cells #[x] 25)) fun e w' => e = .returned (.agg (row8 S).toArray) /\ Below w.heap.size w w' := by
  have e : [l].flatten = l := by simp
  have b := (Below.refl w.heap.size w).alloc (Nat.le_refl _) (.cells #[x] 25)
  have h1 := of_any [l] (by rw [e]; exact hn) _ _ (rds_one h rfl) (ht.below b)
  rw [e, <- hS] at h1
  exact h1.mono fun _ _ q => ⟨q.1, b.on q.2⟩
theorem sum_of {g : Nat} {L S : List Nat} {w : World} (hs : Hs w g L) (ht : TabP w) (hn : L.length <= 1152921504606846976) (hS : S = sha L) :
    Calls Tryd.prog 49 #[.pointer (some ⟨g, 0, none⟩)] w fun e w' => e = .returned (.agg (row8 S).toArray) /\ Below w.heap.size w w' := by
  rw [hS]; exact sum_any g L w hs ht hn
theorem of_two_at {w : World} {x y : Value} {l m S : List Nat} {b : Nat} (hb : b = w.heap.size) (h : Rd w x l) (k : Rd w y m) (ht : TabP w) (hn : l.length + m.length <= 1152921504606846976) (hS : S = sha (l ++ m)) :
    Calls Tryd.prog 28 #[.slice (some ⟨b, 0, none⟩) 2 2] (w.alloc (.cells #[x, y] 25)) fun e w' => e = .returned (.agg (row8 S).toArray) /\ Below w.heap.size w w' := by
  subst hb; exact of_two h k ht hn hS
theorem of_one_at {w : World} {x : Value} {l S : List Nat} {b : Nat} (hb : b = w.heap.size) (h : Rd w x l) (ht : TabP w) (hn : l.length <= 1152921504606846976) (hS : S = sha l) :
    Calls Tryd.prog 28 #[.slice (some ⟨b, 0, none⟩) 1 1] (w.alloc (.cells #[x] 25)) fun e w' => e = .returned (.agg (row8 S).toArray) /\ Below w.heap.size w w' := by
  subst hb; exact of_one h ht hn hS
end Go.Proofs.YtflnodkajhokhaaDoor
namespace Go.Proofs.YtflnodkajhokhaaDoor
open Go.RowKit
def Pred.hash {B : Nat} (L : List Nat) : Pred B := ⟨fun v w => ∃ h, v = .pointer (some ⟨h, 0, none⟩) /\ B <= h /\ Hs w h L, false,
  fun ⟨h, e, hb, hs⟩ hw => ⟨h, e, hb, hs.below hw hs.lt⟩,
  fun ⟨h, e, hb, hs⟩ hg _ hne => ⟨h, e, hb, hs.grown hg (by subst e; exact hne.resolve_left (by simp))⟩⟩
end Go.Proofs.YtflnodkajhokhaaDoor
end

section
namespace Go.Proofs.YtflnodkajhokhaaDoor
namespace SM
def kof (key : List Nat) : List Nat := if 64 < key.length then sha key else key
def kx (key : List Nat) (x : Nat) : List Nat := (List.range 64).map fun i => gb (kof key) i ^^^ x
def mac (key b : List Nat) : List Nat := sha (kx key 0x5c ++ sha (kx key 0x36 ++ b))
theorem out_len (h : List Nat) : (out h).length = 32 := by simp [out]
theorem sha_length (l : List Nat) : (sha l).length = 32 := out_len _
end SM
end Go.Proofs.YtflnodkajhokhaaDoor
namespace Go.Proofs.YtflnodkajhokhaaDoor
open Go.ChangeShapes Go.WideShapes Go.ChangeAt Go.RowKit
open SM
def xk (K : List Nat) (x n : Nat) : List Nat := (List.range 64).map fun i => if i < n then gb K i ^^^ x else gb K i
theorem xk_len (K : List Nat) (x n : Nat) : (xk K x n).length = 64 := by simp [xk]
theorem xk_get (K : List Nat) (x n k : Nat) (hk : k < 64) : gb (xk K x n) k = if k < n then gb K k ^^^ x else gb K k := by
  unfold xk; rw [gb_map, if_pos hk]
theorem xk_byte {K : List Nat} (hK : ∀ k, gb K k < 256) {x : Nat} (hx : x < 256) (n k : Nat) : gb (xk K x n) k < 256 := by
  unfold xk; rw [gb_map]
  split
  . split
    . exact Nat.xor_lt_two_pow (n := 8) (hK k) hx
    . exact hK k
  . omega
theorem xk_zero {K : List Nat} (hK : K.length = 64) (x : Nat) : xk K x 0 = K :=
  bytes_ext (n := 64) (xk_len _ _ _) hK fun k hk => by rw [xk_get _ _ _ _ hk, if_neg (by omega)]
theorem xk_step (K : List Nat) (x k : Nat) (hk : k < 64) : (xk K x k).set k (gb K k ^^^ x) = xk K x (k + 1) :=
  bytes_ext (n := 64) (by rw [List.length_set, xk_len]) (xk_len _ _ _) fun j hj => by
    rw [gb_set _ _ _ _ (by rw [xk_len]; exact hk), xk_get _ _ _ _ hj, xk_get _ _ _ _ hj]
    by_cases e : k = j
    . subst e; rw [if_pos rfl, if_pos (by omega)]
    . rw [if_neg e]
      by_cases h : j < k
      . rw [if_pos h, if_pos (by omega)]
      . rw [if_neg h, if_neg (by omega)]
theorem xk_all (K : List Nat) (x : Nat) : xk K x 64 = (List.range 64).map fun i => gb K i ^^^ x := by
  unfold xk
  apply List.map_congr_left
  intro i hi
  rw [if_pos (by simpa using hi)]
set_option maxRecDepth 100000 in
set_option maxHeartbeats 1000000 in
theorem behind_any (K : List Nat) (hK : Bytes 64 K) (x : Nat) (hx : x < 256) (w : World) (ht : TabP w) :
    Calls Tryd.prog 74 #[.agg (row8 K).toArray, .int .u8 (x : Int)] w fun e w' => ∃ h, w.heap.size < h /\ e = .returned (.pointer (some ⟨h, 0, none⟩)) /\ Hs w' h (xk K x 64) /\ Below w.heap.size w w' := by
  have HT := Lib.hid ht
  have HK := Lib.hid hK
  have b0 := Blk.new w 124 (row8 K) _ rfl
  have B0 := Lib.hid b0
  have BB := Lib.hid ((Below.refl w.heap.size w).alloc (Nat.le_refl _) (.cells (row8 K).toArray 124))
  clear ht hK b0
  go_enter Tryd.func74, Tryd.ntmps74
  go_wp2_with fail
  go_loopw [7] (fun i wr => ∃ k : Nat, k <= 64 /\ i = .int .i64 (k : Int) /\ Blk wr w.heap.size 124 (row8 (xk K x k)) /\ Below w.heap.size w wr) (fun i _ => 64 - (intOf i).toNat)
  case atStart => exact ⟨0, Nat.zero_le _, rfl, by rw [xk_zero HK.out.1]; exact B0.out, BB.out⟩
  case round =>
    clear B0 BB
    obtain ⟨k, hk, rfl, hb, bb⟩ := hrel
    by_cases hlt : k < 64
    . have hg : gb (xk K x k) k = gb K k := by rw [xk_get _ _ _ _ hlt, if_neg (by omega)]
      have hc := hb.cell k _ (row8_val _ k (by rw [xk_len]; exact hlt))
      rw [hg] at hc
      have hf := hb.free k
      have hxr := u8_xor_nat (gb K k) x (HK.out.2 k) hx
      have BK := Lib.hid hb
      have BB := Lib.hid bb
      clear hb bb hg
      go_wp2_with fail
      exact ⟨⟨k + 1, by omega, by go_num, by rw [<- xk_step _ _ _ hlt, <- row8_set]; exact BK.out.set k _, BB.out.setCell (Nat.le_refl _) _⟩, by simp [intOf]; omega⟩
    . obtain rfl : k = 64 := by omega
      have BK := Lib.hid hb
      have BB := Lib.hid bb
      clear hb bb
      go_wp2_with (first
        | (go_at_call 47; refine (new_ex _).mono ?_; rintro e w2 ⟨h, hh, rfl, h2, b2⟩; have HH := Lib.hid (show w.heap.size < h by have := BK.out.lt; omega); have B2 := Lib.hid (BB.out.on b2); have K2 := Lib.hid (BK.out.below b2 BK.out.lt); have W2 := Lib.hid (write_any h [] (xk K x 64) (.slice (some ⟨w.heap.size, 0, none⟩) 64 64) w2 (by have := blk_rd K2.out (xk_byte HK.out.2 hx 64) (n := 64) (cap := 64) (by rw [xk_len]; omega) (by omega) (by rw [xk_len]; omega); rwa [List.take_of_length_le (by rw [xk_len]; omega)] at this) (fun _ q => by have e : w.heap.size = h := Option.some.inj q; have := HH.out; omega) h2 (HT.out.below B2.out) (by have := HT.out.lt; have := HH.out; omega) (by rw [xk_len]; simp)); clear h2 b2 hh)
        | (go_at_call 48; (with_reducible refine W2.out.mono ?_); rintro e w3 ⟨rfl, h3, g3⟩; rw [List.nil_append] at h3; have H3 := Lib.hid h3; have B3 := Lib.hid (B2.out.grown g3 B2.out.size (fun j hj => by have := Option.some.inj hj; have := HH.out; omega)); clear h3 g3))
      go_ret
      exact ⟨_, HH.out, rfl, H3.out, B3.out⟩
end Go.Proofs.YtflnodkajhokhaaDoor
namespace Go.Proofs.YtflnodkajhokhaaDoor
open Go.ChangeShapes Go.WideShapes Go.ChangeAt Go.RowKit
open SM
def pad (K : List Nat) : List Nat := (List.range 64).map (gb K)
theorem pad_len (K : List Nat) : (pad K).length = 64 := by simp [pad]
theorem pad_get (K : List Nat) (k : Nat) (hk : k < 64) : gb (pad K) k = gb K k := by
  unfold pad; rw [gb_map, if_pos hk]
theorem pad_bytes {K : List Nat} (hK : ∀ k, gb K k < 256) : Bytes 64 (pad K) := by
  refine ⟨pad_len K, fun k => ?_⟩
  unfold pad; rw [gb_map]; split
  . exact hK k
  . omega
theorem pad_kx (l : List Nat) (x : Nat) : xk (pad (kof l)) x 64 = kx l x := by
  rw [xk_all]; unfold kx
  apply List.map_congr_left
  intro i hi
  rw [pad_get _ _ (by simpa using hi)]
theorem pad_splice (K : List Nat) (hK : K.length <= 64) : splice (row8 (List.replicate 64 0)) 0 (row8 K) = row8 (pad K) := by
  rw [<- row8_splice]
  congr 1
  refine bytes_ext (n := 64) (by rw [splice_len _ _ _ (by simp; omega)]; simp) (pad_len K) fun k hk => ?_
  rw [gb_splice _ _ _ _ (by simp; omega), pad_get _ _ hk, if_neg (by omega)]
  by_cases h : k < K.length
  . rw [if_pos (by omega)]; simp
  . rw [if_neg (by omega)]
    unfold gb
    rw [List.getD_eq_getElem?_getD, List.getD_eq_getElem?_getD, List.getElem?_eq_none (l := K) (by omega), List.getElem?_replicate]
    split <;> rfl
theorem infoHb : (Tryd.prog.info? 124).map (·.size) = some 64 := by kernel_rfl
theorem kof_byte {l : List Nat} (h : ∀ k, gb l k < 256) (k : Nat) : gb (kof l) k < 256 := by
  unfold kof; split
  . exact (sha_bytes l).2 k
  . exact h k
set_option maxRecDepth 100000 in
theorem zeroHb (w : World) : (zeroValue 124).run Tryd.prog w = .ok (.agg (row8 (List.replicate 64 0)).toArray) w := by kernel_rfl
set_option maxRecDepth 100000 in
set_option maxHeartbeats 1000000 in
theorem blockOf_any (l : List Nat) (v : Value) (w : World) (hv : Rd w v l) (ht : TabP w) :
    Calls Tryd.prog 73 #[v] w fun e w' => e = .returned (.agg (row8 (pad (kof l))).toArray) /\ Below w.heap.size w w' := by
  obtain ⟨ao, cap, rfl, hcap⟩ := hv.shape
  have HF := hv.fits
  have HV := Lib.hid hv
  have HT := Lib.hid ht
  obtain ⟨C0, hC0⟩ : ∃ C0, C0 = row8 (List.replicate 64 0) := ⟨_, rfl⟩
  have hz : ∀ w, (zeroValue 124).run Tryd.prog w = .ok (.agg C0.toArray) w := by rw [hC0]; exact zeroHb
  have hc0 : C0.length = 64 := by rw [hC0, row8_len, List.length_replicate]
  have HC0 := Lib.hid hC0
  clear hC0
  have bb1 := (Below.refl w.heap.size w).alloc (Nat.le_refl _) (.cells C0.toArray 124)
  have bb2 := bb1.alloc bb1.size (.cells C0.toArray 124)
  have r2 := (Blk.new w 124 C0 _ rfl).alloc (.cells C0.toArray 124)
  have n2 := Blk.new (w.alloc (.cells C0.toArray 124)) 124 C0 (w.heap.size + 1) (by simp)
  have BB2 := Lib.hid bb2
  have R2 := Lib.hid r2
  have N2 := Lib.hid n2
  clear ht hv bb1 bb2 r2 n2
  by_cases hlt : 64 < l.length
  . obtain ⟨S, hS⟩ : ∃ S, S = sha l := ⟨_, rfl⟩
    have hk : kof l = S := by unfold kof; rw [if_pos hlt, hS]
    have HS := Lib.hid hS
    have bS : Bytes 32 S := by rw [hS]; exact sha_bytes l
    have HBS := Lib.hid bS
    have H32 := Lib.hid (show (row8 S).length = 32 by rw [row8_len]; exact bS.1)
    have HOF := Lib.hid (fun W b (hb : b = W.heap.size) (hB : Below w.heap.size w W) => of_one_at (w := W) hb (HV.out.below hB) (HT.out.below hB) (by omega) HS.out)
    have HSP := Lib.hid (show splice C0 0 (row8 (S.take 32)) = row8 (pad S) by rw [List.take_of_length_le (by have := bS.1; omega)]; rw [HC0.out]; exact pad_splice S (by have := bS.1; omega))
    have HMN := Lib.hid (show (32 : Nat) = min (S.take 32).length 64 by rw [List.length_take, bS.1]; rfl)
    have HP := Lib.hid (show (row8 (pad S)).length = 64 by rw [row8_len, pad_len])
    rw [hk]
    have hlI : (64 : Int) < (l.length : Int) := by omega
    clear hS bS hk
    go_enter Tryd.func73, Tryd.ntmps73
    go_wp2_with (first
      | (go_at_call 28; (with_reducible refine (HOF.out _ _ (by simp) BB2.out).mono ?_); rintro e w3 ⟨rfl, b3⟩; have B3 := Lib.hid (BB2.out.on b3); have R3 := Lib.hid (R2.out.below b3 R2.out.lt); have N3 := Lib.hid (N2.out.below b3 N2.out.lt); clear b3)
      | (refine wpList_store_blk rfl 35 (.tmp 4) (.tmp 10) rfl w3.heap.size 0 (row8 S) rfl rfl 35 (row8 (List.replicate 32 0)) (Blk.new w3 35 (row8 (List.replicate 32 0)) _ rfl) (by rw [H32.out]; exact Nat.le_refl _) (by rw [H32.out]; exact infoS) (row8_one _) ?_; intro w4 b4 g4; rw [splice_all _ _ (by rw [H32.out]; rfl)] at b4; have B4 := Lib.hid (own_turn B3.out g4); have R4 := Lib.hid ((R3.out.alloc _).grown g4 (fun q => by have e : w.heap.size = w3.heap.size := Option.some.inj q; have := R3.out.lt; omega)); have N4 := Lib.hid ((N3.out.alloc _).grown g4 (fun q => by have e : w.heap.size + 1 = w3.heap.size := Option.some.inj q; have := N3.out.lt; omega)); have S4 := Lib.hid (show Rd w4 (.slice (some ⟨w3.heap.size, 0, none⟩) 32 32) (S.take 32) from blk_rd b4 HBS.out.2 (n := 32) (cap := 32) (by rw [HBS.out.1]; omega) (by omega) (by rw [HBS.out.1]; omega)); clear b4 g4)
      | ((with_reducible show wpList _ _ _ _ _ _); refine wpList_copy_blk rfl (.tmp 12) (.tmp 13) 25 25 rfl Tryd.underlying25 (w.heap.size + 1) 0 64 64 124 C0 N4.out (some ⟨w.heap.size + 1, 0, none⟩) rfl (.slice (some ⟨w3.heap.size, 0, none⟩) 32 32) rfl (S.take 32) S4.out 32 HMN.out (fun _ => rfl) (by omega) ?_; intro w5 hb5 hg5; rw [List.take_of_length_le (by rw [List.length_take]; omega), HSP.out] at hb5; have N5 := Lib.hid hb5; have R5 := Lib.hid (R4.out.grown hg5 (fun q => by have e : w.heap.size = w.heap.size + 1 := Option.some.inj q; omega)); have B5 := Lib.hid (B4.out.grown hg5 B4.out.size (fun k hk => by have e : w.heap.size + 1 = k := Option.some.inj hk; omega)); clear hb5 hg5)
      | (refine wpList_load_mid rfl 124 (.tmp 3) rfl (w.heap.size + 1) 0 rfl (row8 (pad S)) _ N5.out.range Tryd.underlying124 rfl (by rw [HP.out]; exact infoHb) ?_)
      | (refine wpList_store_mid rfl 124 (.tmp 2) (.tmp 15) rfl w.heap.size 0 (row8 (pad S)).toArray rfl rfl (R5.out.there _ (by rw [List.size_toArray, HP.out, hc0])) (by rw [List.size_toArray, HP.out]; exact infoHb) (row8_one _) ?_))
    have fin := R5.out.whole (row8 (pad S)) (by rw [HP.out, hc0])
    exact bodyPost_ret (v := .agg (row8 (pad S)).toArray) (results_mid rfl _ _ w.heap.size (row8 (pad S)) _ rfl fin.range Tryd.underlying124 rfl (by rw [HP.out]; exact infoHb)) rfl ⟨rfl, below_setCells w.heap.size (Nat.le_refl _) _ 0 _ B5.out⟩
  . have hk : kof l = l := by unfold kof; rw [if_neg hlt]
    rw [hk]
    have HSP := Lib.hid (show splice C0 0 (row8 (l.take l.length)) = row8 (pad l) by rw [List.take_of_length_le (Nat.le_refl _)]; rw [HC0.out]; exact pad_splice l (by omega))
    have HMN := Lib.hid (show l.length = min l.length 64 by omega)
    have HP := Lib.hid (show (row8 (pad l)).length = 64 by rw [row8_len, pad_len])
    have H2 := Lib.hid (show 0 + l.length <= C0.length by omega)
    have V2 := Lib.hid (HV.out.below BB2.out)
    have hlI : ¬ (64 : Int) < (l.length : Int) := by omega
    clear hk
    go_enter Tryd.func73, Tryd.ntmps73
    go_wp2_with (first
      | ((with_reducible show wpList _ _ _ _ _ _); refine wpList_copy_blk rfl (.tmp 12) (.tmp 13) 25 25 rfl Tryd.underlying25 (w.heap.size + 1) 0 64 64 124 C0 N2.out (some ⟨w.heap.size + 1, 0, none⟩) rfl (.slice ao l.length cap) rfl l V2.out l.length HMN.out (fun _ => rfl) H2.out ?_; intro w5 hb5 hg5; rw [HSP.out] at hb5; have N5 := Lib.hid hb5; have R5 := Lib.hid (R2.out.grown hg5 (fun q => by have e : w.heap.size = w.heap.size + 1 := Option.some.inj q; omega)); have B5 := Lib.hid (BB2.out.grown hg5 BB2.out.size (fun k hk => by have e : w.heap.size + 1 = k := Option.some.inj hk; omega)); clear hb5 hg5)
      | (refine wpList_load_mid rfl 124 (.tmp 3) rfl (w.heap.size + 1) 0 rfl (row8 (pad l)) _ N5.out.range Tryd.underlying124 rfl (by rw [HP.out]; exact infoHb) ?_)
      | (refine wpList_store_mid rfl 124 (.tmp 2) (.tmp 15) rfl w.heap.size 0 (row8 (pad l)).toArray rfl rfl (R5.out.there _ (by rw [List.size_toArray, HP.out, hc0])) (by rw [List.size_toArray, HP.out]; exact infoHb) (row8_one _) ?_))
    have fin := R5.out.whole (row8 (pad l)) (by rw [HP.out, hc0])
    exact bodyPost_ret (v := .agg (row8 (pad l)).toArray) (results_mid rfl _ _ w.heap.size (row8 (pad l)) _ rfl fin.range Tryd.underlying124 rfl (by rw [HP.out]; exact infoHb)) rfl ⟨rfl, below_setCells w.heap.size (Nat.le_refl _) _ 0 _ B5.out⟩
end Go.Proofs.YtflnodkajhokhaaDoor
namespace Go.Proofs.YtflnodkajhokhaaDoor
open Go.ChangeShapes Go.WideShapes Go.ChangeAt Go.RowKit
open SM
structure Mc (w : World) (m h o : Nat) (l b : List Nat) : Prop where
  blk : Blk w m 128 [.pointer (some ⟨h, 0, none⟩), .pointer (some ⟨o, 0, none⟩)]
  inn : Hs w h (kx l 0x36 ++ b)
  out : Hs w o (kx l 0x5c)
  ho : h ≠ o
  hm : h ≠ m
  om : o ≠ m
theorem Mc.below {w w' : World} {m h o : Nat} {l b : List Nat} (k : Mc w m h o l b) (hb : Below w.heap.size w w') : Mc w' m h o l b :=
  ⟨k.blk.below hb k.blk.lt, k.inn.below hb k.inn.lt, k.out.below hb k.out.lt, k.ho, k.hm, k.om⟩
theorem Mc.alloc {w : World} {m h o : Nat} {l b : List Nat} (k : Mc w m h o l b) (x : Obj) : Mc (w.alloc x) m h o l b := ⟨k.blk.alloc x, k.inn.alloc x, k.out.alloc x, k.ho, k.hm, k.om⟩
theorem kx_len (l : List Nat) (x : Nat) : (kx l x).length = 64 := by simp [kx]
set_option maxRecDepth 100000 in
set_option maxHeartbeats 1000000 in
theorem mac_new (l : List Nat) (v : Value) (w : World) (hv : Rd w v l) (ht : TabP w) :
    Calls Tryd.prog 51 #[v] w fun e w' => ∃ m h o, w.heap.size <= m /\ w.heap.size <= h /\ w.heap.size <= o /\ e = .returned (.pointer (some ⟨m, 0, none⟩)) /\ Mc w' m h o l [] /\ Below w.heap.size w w' := by
  have hbb := pad_bytes (kof_byte hv.byte)
  obtain ⟨K, hK⟩ : ∃ K, K = pad (kof l) := ⟨_, rfl⟩
  rw [<- hK] at hbb
  have HBB := Lib.hid hbb
  have HP := Lib.hid (show (row8 K).length = 64 by rw [row8_len]; exact hbb.1)
  have HT := Lib.hid ht
  have hbo := blockOf_any l v w hv ht
  rw [<- hK] at hbo
  have HBO := Lib.hid hbo
  have hx6 : xk K 0x36 64 = kx l 0x36 := by rw [hK]; exact pad_kx l _
  have hx5 : xk K 0x5c 64 = kx l 0x5c := by rw [hK]; exact pad_kx l _
  have H6 := Lib.hid (fun W (hW : TabP W) => by have := behind_any K HBB.out 0x36 (by omega) W hW; rw [hx6] at this; exact this)
  have H5 := Lib.hid (fun W (hW : TabP W) => by have := behind_any K HBB.out 0x5c (by omega) W hW; rw [hx5] at this; exact this)
  obtain ⟨C0, hC0⟩ : ∃ C0, C0 = row8 (List.replicate 64 0) := ⟨_, rfl⟩
  have hz : ∀ w, (zeroValue 124).run Tryd.prog w = .ok (.agg C0.toArray) w := by rw [hC0]; exact zeroHb
  have hc0 : C0.length = 64 := by rw [hC0, row8_len, List.length_replicate]
  clear hC0 hbb hbo hx6 hx5 hK hv ht
  go_enter Tryd.func51, Tryd.ntmps51
  go_upto_region 2 with (first
    | (go_at_call 73; (with_reducible refine HBO.out.mono ?_); rintro e w2 ⟨rfl, b2⟩; have B2 := Lib.hid b2; clear b2)
    | (refine wpList_store_blk rfl 124 (.tmp 3) (.tmp 5) rfl w2.heap.size 0 (row8 K) rfl rfl 124 C0 (Blk.new w2 124 C0 _ rfl) (by rw [HP.out, hc0]; exact Nat.le_refl _) (by rw [HP.out]; exact infoHb) (row8_one _) ?_; intro w3 b3 g3; rw [splice_all _ _ (by rw [HP.out, hc0])] at b3; have K3 := Lib.hid b3; have B3 := Lib.hid (own_turn B2.out g3); clear b3 g3))
  simp only [put_none]
  obtain ⟨kb, hkb⟩ : ∃ kb, kb = w2.heap.size := ⟨_, rfl⟩
  rw [<- hkb] at K3 ⊢
  clear hkb hz hc0
  refine wp_region_g (by kernel_rfl) 4 (by decide) (by kernel_rfl) (by kernel_rfl) (by kernel_rfl) w3.heap.size (Nat.le_refl _) [.val (.agg (row8 K).toArray), .hash (kx l 0x36), .val (.agg (row8 K).toArray), .hash (kx l 0x5c)] (fun _ => 7) ?_ ?_
  . refine ⟨?_, ?_, ?_, ?_, trivial⟩
    . intro a w' hF hB hd
      have e3 : a.eval (.tmp 3) = .pointer (some ⟨kb, 0, none⟩) := hF 3 (by decide +kernel)
      exact doesG_wp rfl rfl fun K' hK' => wp_load_mid 124 (.tmp 3) rfl kb 0 e3 (row8 K) _ (K3.out.below hB K3.out.lt).range Tryd.underlying124 rfl (by rw [HP.out]; exact infoHb) (hK' _ _ rfl (Below.refl _ _))
    . intro a w' hF hB hd
      have e6 : a.eval (.tmp 6) = .agg (row8 K).toArray := hd 0 (by decide +kernel) (.inr (by decide))
      exact doesG_made rfl (ex_call (vs := #[.agg (row8 K).toArray, .int .u8 0x36]) rfl (by simp only [List.map_toArray, List.map_cons, List.map_nil, e6]; rfl) (by go_simp)) ((H6.out w' (HT.out.below (B3.out.on hB))).mono fun e w4 hh => by
        obtain ⟨h, q1, rfl, q3, q4⟩ := hh
        exact ⟨_, rfl, ⟨h, rfl, by have := hB.size; omega, q3⟩, q4, fun g hg => by have : h = g := Option.some.inj hg; have := q3.lt; omega⟩)
    . intro a w' hF hB hd
      have e3 : a.eval (.tmp 3) = .pointer (some ⟨kb, 0, none⟩) := hF 3 (by decide +kernel)
      exact doesG_wp rfl rfl fun K' hK' => wp_load_mid 124 (.tmp 3) rfl kb 0 e3 (row8 K) _ (K3.out.below hB K3.out.lt).range Tryd.underlying124 rfl (by rw [HP.out]; exact infoHb) (hK' _ _ rfl (Below.refl _ _))
    . intro a w' hF hB hd
      have e8 : a.eval (.tmp 8) = .agg (row8 K).toArray := hd 2 (by decide +kernel) (.inr (by decide))
      exact doesG_made rfl (ex_call (vs := #[.agg (row8 K).toArray, .int .u8 0x5c]) rfl (by simp only [List.map_toArray, List.map_cons, List.map_nil, e8]; rfl) (by go_simp)) ((H5.out w' (HT.out.below (B3.out.on hB))).mono fun e w4 hh => by
        obtain ⟨h, q1, rfl, q3, q4⟩ := hh
        exact ⟨_, rfl, ⟨h, rfl, by have := hB.size; omega, q3⟩, q4, fun g hg => by have : h = g := Option.some.inj hg; have := q3.lt; omega⟩)
  . intro vs w4 hB hv hap
    obtain ⟨h, e1, hb1, hs1⟩ : ∃ h, vs 1 = .pointer (some ⟨h, 0, none⟩) /\ w3.heap.size <= h /\ Hs w4 h (kx l 0x36) := hv 1 (by omega) (by omega)
    obtain ⟨o, e3, hb3, hs3⟩ : ∃ h, vs 3 = .pointer (some ⟨h, 0, none⟩) /\ w3.heap.size <= h /\ Hs w4 h (kx l 0x5c) := hv 3 (by omega) (by omega)
    have hne : h ≠ o := fun e => hap 1 3 (by omega) (by omega) (by omega) (by omega) (by omega) rfl rfl h (by rw [e1]; rfl) (by rw [e3, e]; rfl)
    simp only [List.take_succ_cons, List.take_zero, List.drop_succ_cons, List.drop_zero, putOps, Act.put, List.setIfInBounds_toArray, List.set_cons_zero, List.set_cons_succ, e1, e3]
    have hsz := B3.out.size
    have h1 := hs1.lt
    have h3 := hs3.lt
    have HS1 := Lib.hid hs1
    have HS3 := Lib.hid hs3
    have B4 := Lib.hid (B3.out.on hB)
    clear hv hap hs1 hs3 hB e1 e3
    go_wp2_with fail
    go_ret
    refine ⟨w4.heap.size, h, o, by have := B4.out.size; omega, by omega, by omega, rfl, ⟨Blk.new w4 128 [.pointer (some ⟨h, 0, none⟩), .pointer (some ⟨o, 0, none⟩)] _ rfl, by rw [List.append_nil]; exact HS1.out.alloc _, HS3.out.alloc _, hne, by omega, by omega⟩, B4.out.alloc B4.out.size _⟩
end Go.Proofs.YtflnodkajhokhaaDoor
namespace Go.Proofs.YtflnodkajhokhaaDoor
open Go.ChangeShapes Go.WideShapes Go.ChangeAt Go.RowKit
open SM
theorem Mc.wrote {w w' : World} {m h o : Nat} {l b c : List Nat} (k : Mc w m h o l b) (hs : Hs w' h (kx l 0x36 ++ b ++ c)) (hg : w.grownBy w' (some h)) : Mc w' m h o l (b ++ c) :=
  ⟨k.blk.grown hg (fun q => k.hm (Option.some.inj q).symm), by rw [<- List.append_assoc]; exact hs, k.out.grown hg (fun q => k.ho (Option.some.inj q).symm), k.ho, k.hm, k.om⟩
theorem mac_write (m h o : Nat) (l b c : List Nat) (v : Value) (w : World) (hv : Rd w v c) (hne : 0 < c.length -> v.ownBlock ≠ some h) (hm : Mc w m h o l b) (ht : TabP w) (hgk : h ≠ 0) (hn : b.length + c.length <= 2305843009213693952) :
    Calls Tryd.prog 52 #[.pointer (some ⟨m, 0, none⟩), v] w fun e w' => e = .returned (.int .i64 0) /\ Mc w' m h o l (b ++ c) /\ w.grownBy w' (some h) := by
  have c0 := hm.blk.cell 0 _ rfl
  have HW := Lib.hid (write_any h (kx l 0x36 ++ b) c v w hv hne hm.inn ht hgk (by rw [List.length_append, kx_len]; omega))
  have HM := Lib.hid hm
  clear hm hv hne ht
  go_enter Tryd.func52, Tryd.ntmps52
  go_wp2_with (go_at_call 48; (with_reducible refine HW.out.mono ?_); rintro e w2 ⟨rfl, h2, g2⟩; have H2 := Lib.hid h2; have G2 := Lib.hid g2; clear h2 g2)
  go_ret
  exact ⟨rfl, HM.out.wrote H2.out G2.out, G2.out⟩
set_option maxRecDepth 100000 in
set_option maxHeartbeats 1000000 in
theorem mac_sum (m h o : Nat) (l b : List Nat) (w : World) (hm : Mc w m h o l b) (ht : TabP w) (hn : b.length <= 1152921504606846900) :
    Calls Tryd.prog 53 #[.pointer (some ⟨m, 0, none⟩)] w fun e w' => e = .returned (.agg (row8 (mac l b)).toArray) /\ Below w.heap.size w w' := by
  obtain ⟨S, hS⟩ : ∃ S, S = sha (kx l 0x36 ++ b) := ⟨_, rfl⟩
  have bS : Bytes 32 S := by rw [hS]; exact sha_bytes _
  obtain ⟨M, hM⟩ : ∃ M, M = mac l b := ⟨_, rfl⟩
  have hM2 : M = sha (kx l 0x5c ++ S) := by rw [hM, hS]; rfl
  have bM : Bytes 32 M := by rw [hM2]; exact sha_bytes _
  rw [<- hM]
  obtain ⟨C0, hC0⟩ : ∃ C0, C0 = row8 (List.replicate 32 0) := ⟨_, rfl⟩
  have hz : ∀ w, (zeroValue 35).run Tryd.prog w = .ok (.agg C0.toArray) w := by rw [hC0]; exact zeroSum
  have hc0 : C0.length = 32 := by rw [hC0, row8_len, List.length_replicate]
  clear hC0
  have HS := Lib.hid hS
  have HM2 := Lib.hid hM2
  have HBS := Lib.hid bS
  have S32 := Lib.hid (show (row8 S).length = 32 by rw [row8_len]; exact bS.1)
  have M32 := Lib.hid (show (row8 M).length = 32 by rw [row8_len]; exact bM.1)
  have HT := Lib.hid ht
  have HTL := Lib.hid ht.lt
  have m1 := hm.alloc (.cells C0.toArray 35)
  have c0 := m1.blk.cell 0 _ rfl
  have M1 := Lib.hid m1
  have bb1 := (Below.refl w.heap.size w).alloc (Nat.le_refl _) (.cells C0.toArray 35)
  have R1 := Lib.hid (Blk.new w 35 C0 _ rfl)
  have S1 := Lib.hid (sum_of m1.inn (ht.below bb1) (by rw [List.length_append, kx_len]; omega) hS)
  have BB1 := Lib.hid bb1
  clear hS hM hM2 bS bM ht hm m1 bb1
  go_enter Tryd.func53, Tryd.ntmps53
  go_wp2_with (first
    | (go_at_call 49; (with_reducible refine S1.out.mono ?_); rintro e w2 ⟨rfl, b2⟩; have B2 := Lib.hid (BB1.out.on b2); have R2 := Lib.hid (R1.out.below b2 R1.out.lt); have M2 := Lib.hid (M1.out.below b2); clear b2)
    | (refine wpList_store_blk rfl 35 (.tmp 3) (.tmp 12) rfl w2.heap.size 0 (row8 S) rfl rfl 35 C0 (Blk.new w2 35 C0 _ rfl) (by rw [S32.out, hc0]; exact Nat.le_refl _) (by rw [S32.out]; exact infoS) (row8_one _) ?_; intro w3 b3 g3; rw [splice_all _ _ (by rw [S32.out, hc0])] at b3; have K3 := Lib.hid b3; have B3 := Lib.hid (own_turn B2.out g3); have R3 := Lib.hid ((R2.out.alloc (.cells C0.toArray 35)).grown g3 (fun q => by have e : w.heap.size = w2.heap.size := Option.some.inj q; have := R2.out.lt; omega)); have m3 := (M2.out.alloc (.cells C0.toArray 35)); have c1 := (m3.blk.grown g3 (fun q => by have e : m = w2.heap.size := Option.some.inj q; have := M2.out.blk.lt; omega)).cell 1 _ rfl; have F3 := Lib.hid (fork_ex o (kx l 0x5c) w3 (m3.out.grown g3 (fun q => by have e : o = w2.heap.size := Option.some.inj q; have := M2.out.out.lt; omega))); clear b3 g3 m3)
    | (go_at_call 70; (with_reducible refine F3.out.mono ?_); rintro e w4 ⟨f, hf, rfl, h4, b4⟩; have HF := Lib.hid hf; have B4 := Lib.hid (B3.out.on b4); have R4 := Lib.hid (R3.out.below b4 R3.out.lt); have W4 := Lib.hid (write_any f (kx l 0x5c) S (.slice (some ⟨w2.heap.size, 0, none⟩) 32 32) w4 (by have := blk_rd (K3.out.below b4 K3.out.lt) HBS.out.2 (n := 32) (cap := 32) (by rw [HBS.out.1]; omega) (by omega) (by rw [HBS.out.1]; omega); rwa [List.take_of_length_le (by rw [HBS.out.1]; omega)] at this) (fun _ q => by have e : w2.heap.size = f := Option.some.inj q; have := K3.out.lt; omega) h4 (HT.out.below B4.out) (by have := HTL.out; have := B3.out.size; omega) (by rw [kx_len, HBS.out.1]; omega)); clear h4 b4 hf)
    | (go_at_call 48; (with_reducible refine W4.out.mono ?_); rintro e w5 ⟨rfl, h5, g5⟩; have B5 := Lib.hid (B4.out.grown g5 B4.out.size (fun k hk => by have e : f = k := Option.some.inj hk; have := HF.out; have := B3.out.size; omega)); have R5 := Lib.hid (R4.out.grown g5 (fun q => by have e : w.heap.size = f := Option.some.inj q; have := HF.out; have := R3.out.lt; omega)); have S5 := Lib.hid (sum_of h5 (HT.out.below B5.out) (by rw [List.length_append, kx_len, HBS.out.1]; omega) HM2.out); clear h5 g5)
    | (go_at_call 49; (with_reducible refine S5.out.mono ?_); rintro e w6 ⟨rfl, b6⟩; have B6 := Lib.hid (B5.out.on b6); have R6 := Lib.hid (R5.out.below b6 R5.out.lt); clear b6)
    | (refine wpList_store_mid rfl 35 (.tmp 2) (.tmp 22) rfl w.heap.size 0 (row8 M).toArray rfl rfl (R6.out.there _ (by rw [List.size_toArray, M32.out, hc0])) (by rw [List.size_toArray, M32.out]; exact infoS) (row8_one _) ?_))
  have fin := R6.out.whole (row8 M) (by rw [M32.out, hc0])
  exact bodyPost_ret (v := .agg (row8 M).toArray) (results_mid rfl _ _ w.heap.size (row8 M) _ rfl fin.range Tryd.underlying35 rfl (by rw [M32.out]; exact infoS)) rfl ⟨rfl, below_setCells w.heap.size (Nat.le_refl _) _ 0 _ B6.out⟩
end Go.Proofs.YtflnodkajhokhaaDoor
namespace Go.Proofs.YtflnodkajhokhaaDoor
open Go.ChangeShapes Go.WideShapes Go.ChangeAt Go.RowKit
open SM
set_option maxRecDepth 100000 in
set_option maxHeartbeats 1000000 in
theorem hof_any (l : List Nat) (ls : List (List Nat)) (hn : ls.flatten.length <= 1152921504606846900) (u v : Value) (w : World) (hu : Rd w u l) (hv : Rds w v ls) (ht : TabP w) :
    Calls Tryd.prog 30 #[u, v] w fun e w' => e = .returned (.agg (row8 (mac l ls.flatten)).toArray) /\ Below w.heap.size w w' := by
  obtain ⟨au, cu, rfl, hcu⟩ := hu.shape
  obtain ⟨ao, cap, rfl, hcap⟩ := hv.shape
  have HV := Lib.hid hv
  have HFI := hv.fits
  have HT := Lib.hid ht
  have HTL := Lib.hid ht.lt
  obtain ⟨C0, hC0⟩ : ∃ C0, C0 = row8 (List.replicate 32 0) := ⟨_, rfl⟩
  have hz : ∀ w, (zeroValue 35).run Tryd.prog w = .ok (.agg C0.toArray) w := by rw [hC0]; exact zeroSum
  have hc0 : C0.length = 32 := by rw [hC0, row8_len, List.length_replicate]
  have bb1 := (Below.refl w.heap.size w).alloc (Nat.le_refl _) (.cells C0.toArray 35)
  have R1 := Lib.hid (Blk.new w 35 C0 _ rfl)
  have N1 := Lib.hid (mac_new l (.slice au l.length cu) (w.alloc (.cells C0.toArray 35)) (hu.alloc _) (ht.below bb1))
  have BB1 := Lib.hid bb1
  obtain ⟨S, hS⟩ : ∃ S, S = mac l ls.flatten := ⟨_, rfl⟩
  rw [<- hS]
  have HSS := Lib.hid hS
  have H32 := Lib.hid (show (row8 S).length = 32 by rw [hS, row8_len]; exact SM.sha_length _)
  clear hu hv ht bb1 hS hC0
  go_enter Tryd.func30, Tryd.ntmps30
  go_wp2_with (go_at_call 51; (with_reducible refine N1.out.mono ?_); rintro e w2 ⟨m, h, o, hm, hh, ho, rfl, m2, b2⟩; have HM := Lib.hid hm; have HH := Lib.hid hh; have HO := Lib.hid ho; clear hm hh ho; have M2 := Lib.hid m2; have BB2 := Lib.hid (BB1.out.on b2); have R2 := Lib.hid (R1.out.below b2 R1.out.lt); clear m2 b2)
  go_loopw [12] (fun i wr => ∃ k : Nat, k <= ls.length /\ i = .int .i64 (k : Int) /\ Mc wr m h o l (ls.take k).flatten /\ Blk wr w.heap.size 35 C0 /\ Below w.heap.size w wr) (fun i _ => ls.length - (intOf i).toNat)
  case atStart => exact ⟨0, Nat.zero_le _, rfl, M2.out, R2.out, BB2.out⟩
  case round =>
    clear M2 R2 BB2 R1 BB1 N1
    obtain ⟨k, hk, rfl, hs, r0, b0⟩ := hrel
    have hh1 : w.heap.size + 1 <= h := by have := HH.out; simpa using this
    have hgk : h ≠ 0 := by have := HTL.out; omega
    by_cases hlt : k < ls.length
    . obtain ⟨ad, x, rfl, hc, hr⟩ := (HV.out.below b0).at_ k hlt
      obtain ⟨_, x', e1, hc', hr'⟩ := HV.out.at_ k hlt
      cases e1
      have hxx : x' = x := Option.some.inj ((cell_below hc' b0).symm.trans hc)
      subst hxx
      have hne : 0 < ls[k].length -> x'.ownBlock ≠ some h := fun hl => hr'.old hl h (by omega)
      have hle : (ls.take k).flatten.length + ls[k].length <= 1152921504606846900 := by
        have h1 := congrArg List.length (flat_take ls k hlt)
        rw [List.length_append] at h1
        have := flat_le ls (k + 1)
        omega
      have HW := Lib.hid (mac_write m h o l _ _ x' wr hr hne hs (HT.out.below b0) hgk (by omega))
      have HFT := Lib.hid (flat_take ls k hlt)
      have R0 := Lib.hid r0
      have B0 := Lib.hid b0
      have HH1 := Lib.hid hh1
      clear hr hr' hne hs r0 b0 hc' hle hh1
      go_wp2_with (go_at_call 52; (with_reducible refine HW.out.mono ?_); rintro e w3 ⟨rfl, h3, g3⟩; rw [HFT.out] at h3; have H3 := Lib.hid h3; have R3 := Lib.hid (R0.out.grown g3 (fun q => by have e : w.heap.size = h := Option.some.inj q; have := HH1.out; omega)); have B3 := Lib.hid (B0.out.grown g3 B0.out.size (fun j hj => by have e : h = j := Option.some.inj hj; have := HH1.out; omega)); clear h3 g3)
      exact ⟨⟨k + 1, by omega, by go_num, H3.out, R3.out, B3.out⟩, by simp [intOf]; omega⟩
    . obtain rfl : k = ls.length := by omega
      rw [List.take_length] at hs
      have HS := Lib.hid (mac_sum m h o l _ wr hs (HT.out.below b0) hn)
      rw [<- HSS.out] at HS
      have R0 := Lib.hid r0
      have B0 := Lib.hid b0
      clear r0 b0 hs hh1
      go_wp2_with (first
        | (go_at_call 53; (with_reducible refine HS.out.mono ?_); rintro e w4 ⟨rfl, b4⟩; have R4 := Lib.hid (R0.out.below b4 R0.out.lt); have B4 := Lib.hid (B0.out.on b4); clear b4)
        | (refine wpList_store_mid rfl 35 (.tmp 4) (.tmp 21) rfl w.heap.size 0 (row8 S).toArray rfl rfl (R4.out.there _ (by rw [List.size_toArray, H32.out, hc0])) (by rw [List.size_toArray, H32.out]; exact infoS) (row8_one _) ?_))
      have fin := R4.out.whole (row8 S) (by rw [H32.out, hc0])
      exact bodyPost_ret (v := .agg (row8 S).toArray) (results_mid rfl _ _ w.heap.size (row8 S) _ rfl fin.range Tryd.underlying35 rfl (by rw [H32.out]; exact infoS)) rfl ⟨rfl, below_setCells w.heap.size (Nat.le_refl _) _ 0 _ B4.out⟩
theorem hof_two_at {w : World} {u x y : Value} {l m n S : List Nat} {b : Nat} (hb : b = w.heap.size) (hu : Rd w u l) (hx : Rd w x m) (hy : Rd w y n) (ht : TabP w) (hn : m.length + n.length <= 1152921504606846900) (hS : S = mac l (m ++ n)) :
    Calls Tryd.prog 30 #[u, .slice (some ⟨b, 0, none⟩) 2 2] (w.alloc (.cells #[x, y] 25)) fun e w' => e = .returned (.agg (row8 S).toArray) /\ Below w.heap.size w w' := by
  have e : [m, n].flatten = m ++ n := by simp
  have bb := (Below.refl w.heap.size w).alloc (Nat.le_refl _) (.cells #[x, y] 25)
  have h1 := hof_any l [m, n] (by rw [e, List.length_append]; exact hn) u _ _ (hu.alloc _) (rds_two hx hy hb) (ht.below bb)
  rw [e, <- hS] at h1
  exact h1.mono fun _ _ q => ⟨q.1, bb.on q.2⟩
theorem mac_bytes (l b : List Nat) : Bytes 32 (mac l b) := sha_bytes _
end Go.Proofs.YtflnodkajhokhaaDoor
end

section
namespace Go.Proofs.YtflnodkajhokhaaDoor
namespace SM
def ahead : List Nat := [114, 101, 108, 105, 113, 117, 97, 114, 121, 32]
def klabel (key label : List Nat) : List Nat := mac key (ahead ++ label)
end SM
end Go.Proofs.YtflnodkajhokhaaDoor
namespace Go.Proofs.YtflnodkajhokhaaDoor
open Go.RowKit
theorem run_str_rd (w : World) (s : ByteArray) (hs : s.size <= 140737488355328) : ∃ cap w', (convert 9 25 (.string s)).run Tryd.prog w = .ok (.slice (some ⟨w.heap.size, 0, none⟩) s.size cap) w' /\ Rd w' (.slice (some ⟨w.heap.size, 0, none⟩) s.size cap) (sb s) /\ Below w.heap.size w w' /\ w.heap.size < w'.heap.size := by
  refine ⟨_, _, Lib.run_convert_string_bytes (P := Tryd.prog) w 9 25 5 s Tryd.underlying9 Tryd.underlying25 Tryd.underlying5, ⟨sb_byte s, by rw [sb_len]; exact hs, .inr ⟨_, _, by rw [sb_len], ?_, fun j hj => ?_⟩⟩, Lib.bytesWorld_below _ _ _, by rw [Lib.bytesWorld_size]; omega⟩
  . rw [sb_len]
    exact grownCap_ge w s.size 0 _
  . rw [sb_len] at hj
    rw [Addr.add_lit, Nat.zero_add, Lib.bytesWorld_cell _ _ _ _ hj]
    congr 2
    unfold gb sb
    rw [List.getD_eq_getElem?_getD, List.getD_eq_getElem?_getD, List.getElem?_map]
    cases s.data.toList[j]? <;> simp
theorem wpList_conv_str {ops : Array Oper} {rest : List Oper} {o : Oper} {a : Act} {w : World} {Q : Exit -> Act -> World -> Prop} (hgd : o.guard = none) (x : Operand) (ho : o.op = .convert 9 25 x) (s : ByteArray) (hx : a.eval x = .string s) (hs : s.size <= 140737488355328)
    (h : ∀ b cap w', b = w.heap.size -> Rd w' (.slice (some ⟨b, 0, none⟩) s.size cap) (sb s) -> Below w.heap.size w w' -> b < w'.heap.size -> wpList Tryd.prog ops Q rest (a.put o.dst (.slice (some ⟨b, 0, none⟩) s.size cap)) w') : wpList Tryd.prog ops Q (o :: rest) a w :=
  wpList_plain hgd fun _ hK => by
    obtain ⟨cap, w', h1, h2, h3, h4⟩ := run_str_rd w s hs
    unfold Oper.wp
    simp only [execOp, ho, Sem.run_bind, Sem.run_pure, Result.andThen_ok, hx, h1]
    exact hK _ _ (h _ cap w' rfl h2 h3 h4)
end Go.Proofs.YtflnodkajhokhaaDoor
namespace Go.Proofs.YtflnodkajhokhaaDoor
open Go.ChangeShapes Go.WideShapes Go.ChangeAt Go.RowKit
open SM
theorem infoKeyL : (Tryd.prog.info? 23).map (·.size) = some 32 := by kernel_rfl
set_option maxRecDepth 100000 in
set_option maxHeartbeats 2000000 in
theorem klabel_any (K : List Nat) (hK : Bytes 32 K) (s : ByteArray) (hs : s.size <= 140737488355328) (w : World) (ht : TabP w) :
    Calls Tryd.prog 16 #[.agg (row8 K).toArray, .string s] w fun e w' => e = .returned (.agg (row8 (klabel K (sb s))).toArray) /\ Below w.heap.size w w' := by
  obtain ⟨M, hM⟩ : ∃ M, M = klabel K (sb s) := ⟨_, rfl⟩
  have bM : Bytes 32 M := by rw [hM]; exact sha_bytes _
  rw [<- hM]
  have HMM := Lib.hid hM
  have HK := Lib.hid hK
  have HT := Lib.hid ht
  have K32 := Lib.hid (show (row8 K).length = 32 by rw [row8_len]; exact hK.1)
  have M32 := Lib.hid (show (row8 M).length = 32 by rw [row8_len]; exact bM.1)
  obtain ⟨D0, hD0⟩ : ∃ C0, C0 = row8 (List.replicate 32 0) := ⟨_, rfl⟩
  have hzk : ∀ w, (zeroValue 23).run Tryd.prog w = .ok (.agg D0.toArray) w := by
    rw [hD0]; intro w; kernel_rfl
  have hd0 : D0.length = 32 := by rw [hD0, row8_len, List.length_replicate]

  have w1 := (Below.refl w.heap.size w).alloc (Nat.le_refl _) (.cells (row8 K).toArray 23)
  have w2 := w1.alloc w1.size (.cells D0.toArray 23)
  have w3 := w2.alloc w2.size (.cells (row8 SM.ahead).toArray 5 (10, 11))
  have N3 := Lib.hid (((Blk.new w 23 (row8 K) _ rfl).alloc (.cells D0.toArray 23)).alloc (.cells (row8 SM.ahead).toArray 5 (10, 11)))
  have R3 := Lib.hid ((Blk.new (w.alloc (.cells (row8 K).toArray 23)) 23 D0 (w.heap.size + 1) (by simp)).alloc (.cells (row8 SM.ahead).toArray 5 (10, 11)))
  have A3 := Lib.hid (rd_const ((w.alloc (.cells (row8 K).toArray 23)).alloc (.cells D0.toArray 23)) SM.ahead (small_bytes (by decide)) (by decide) 10 rfl (w.heap.size + 1 + 1) (by simp) (10, 11))
  have W3 := Lib.hid w3
  have kc := fun (C : Array Value) (n c : Nat) => Lib.run_convert_bytes_const (P := Tryd.prog) ((w.alloc (.cells (row8 K).toArray 23)).alloc (.cells D0.toArray 23)) 25 5 C n c Tryd.underlying25 Tryd.underlying5
  have hsz : ((w.alloc (.cells (row8 K).toArray 23)).alloc (.cells D0.toArray 23)).heap.size = w.heap.size + 1 + 1 := by simp
  simp only [hsz] at kc
  clear hsz w1 w2 w3 hM hK hD0 ht bM
  go_enter Tryd.func16, Tryd.ntmps16
  go_wp2_with (first
    | ((with_reducible show wpList _ _ _ _ _ _); refine wpList_conv_str rfl (.tmp 8) rfl s rfl hs ?_; intro b cap w4 hb hr b4 hlt; rw [<- sb_len s] at hr ⊢; have B4 := Lib.hid (W3.out.on b4); have R4 := Lib.hid (R3.out.below b4 R3.out.lt); have k4 := blk_rd (N3.out.below b4 N3.out.lt) HK.out.2 (n := 32) (cap := 32) (by rw [HK.out.1]; omega) (by omega) (by rw [HK.out.1]; omega); rw [List.take_of_length_le (by rw [HK.out.1]; omega)] at k4; have F4 := Lib.hid (hof_two_at (w := w4) (b := w4.heap.size) rfl k4 (A3.out.below b4) hr (HT.out.below (W3.out.on b4)) (by rw [sb_len]; have : SM.ahead.length = 10 := rfl; omega) HMM.out); clear hr b4 k4 hb hlt)
    | (go_at_call 30; (with_reducible refine F4.out.mono ?_); rintro e w5 ⟨rfl, b5⟩; have B5 := Lib.hid (B4.out.on b5); have R5 := Lib.hid (R4.out.below b5 R4.out.lt); clear b5)
    | (refine wpList_store_mid rfl 23 (.tmp 4) (.tmp 11) rfl (w.heap.size + 1) 0 (row8 M).toArray rfl rfl (R5.out.there _ (by rw [List.size_toArray, M32.out, hd0])) (by rw [List.size_toArray, M32.out]; exact infoKeyL) (row8_one _) ?_))
  have fin := R5.out.whole (row8 M) (by rw [M32.out, hd0])
  exact bodyPost_ret (v := .agg (row8 M).toArray) (results_mid rfl _ _ (w.heap.size + 1) (row8 M) _ rfl fin.range Tryd.underlying23 rfl (by rw [M32.out]; exact infoKeyL)) rfl ⟨rfl, below_setCells (w.heap.size + 1) (by omega) _ 0 _ B5.out⟩
end Go.Proofs.YtflnodkajhokhaaDoor
end
