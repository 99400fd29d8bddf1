/- A source in memory; made, measured, forked; the function that yields its blocks: contracts. Own work. -/
import Derived.Test.YtdiljngokbfpcaaDoorEntMath
import Derived.Test.YtdiljngokbfpcaaDoorShaD
import Derived.Test.YtdiljngokbfpcaaDoorFuncVal
import Derived.Test.YtdiljngokbfpcaaDoorRdConst
import Derived.Lib.SlBytesConst
namespace Go.Proofs.YtdiljngokbfpcaaDoor
open Go.ChangeShapes Go.WideShapes Go.ChangeAt Go.RowKit
open SM
/-- In block x lies a source of the seed S of which t bytes were taken; its Hash lies in g. -/
structure Sc (w : World) (x g : Nat) (S : List Nat) (t : Nat) : Prop where
  blk : Blk w x 47 [.pointer (some ⟨g, 0, none⟩), .int .i64 (t : Int)]
  inn : Hs w g (S ++ EM.use)
  ne : g ≠ x
theorem Sc.below {w w' : World} {x g : Nat} {S : List Nat} {t : Nat} (k : Sc w x g S t) (hb : Below w.heap.size w w') : Sc w' x g S t := ⟨k.blk.below hb k.blk.lt, k.inn.below hb k.inn.lt, k.ne⟩
theorem Sc.alloc {w : World} {x g : Nat} {S : List Nat} {t : Nat} (k : Sc w x g S t) (o : Obj) : Sc (w.alloc o) x g S t := ⟨k.blk.alloc o, k.inn.alloc o, k.ne⟩
theorem Sc.grown {w w' : World} {x g : Nat} {S : List Nat} {t : Nat} (k : Sc w x g S t) {row : Option Nat} (hg : w.grownBy w' row) (h1 : some x ≠ row) (h2 : some g ≠ row) : Sc w' x g S t := ⟨k.blk.grown hg h1, k.inn.grown hg h2, k.ne⟩
theorem infoSc : (Tryd.prog.info? 47).map (·.size) = some 2 := by kernel_rfl
theorem psnew_any (S : List Nat) (v : Value) (w : World) (hv : Rd w v S) (ht : TabP w) :
    Calls Tryd.prog 7 #[v] w fun e w' => ∃ x g, w.heap.size ≤ x ∧ w.heap.size ≤ g ∧ e = .returned (.pointer (some ⟨x, 0, none⟩)) ∧ Sc w' x g S 0 ∧ Below w.heap.size w w' := by
  have HV := Lib.hid hv
  have HT := Lib.hid ht
  have hf := hv.fits
  clear hv ht
  go_enter Tryd.func7, Tryd.ntmps7
  go_upto_region 2 with (go_at_call 13; refine (new_ex _).mono ?_; rintro e w2 ⟨g, hh, rfl, h2, b2⟩; have HH := Lib.hid hh; clear hh; have H2 := Lib.hid h2; have B2 := Lib.hid b2; clear h2 b2)
  have hgk : g ≠ 0 := by have := HT.out.lt; have := HH.out; omega
  have HW := Lib.hid (write_any g [] S v w2 (HV.out.below B2.out) (fun hl => HV.out.old hl g (by have := HH.out; omega)) H2.out (HT.out.below B2.out) hgk (by simp; omega))
  have HGK := Lib.hid hgk
  clear hgk
  go_upto_region 3 with (go_at_call 14; refine HW.out.mono ?_; rintro e w3 ⟨rfl, h3, g3⟩; rw [List.nil_append] at h3; have H3 := Lib.hid h3; have B3 := Lib.hid (B2.out.grown g3 B2.out.size (fun k hk => by have : g = k := Option.some.inj hk; have := HH.out; omega)); clear h3 g3)
  have r4 : Rd (w3.alloc (.cells #[.int .u8 100, .int .u8 114, .int .u8 97, .int .u8 119] 5 (4, 5))) (.slice (some ⟨w3.heap.size, 0, none⟩) 4 4) EM.use := rd_const w3 EM.use EM.use_byte (by decide) 4 rfl _ rfl (4, 5)
  have hgl := H3.out.lt
  have b4 := B3.out.alloc B3.out.size (.cells #[.int .u8 100, .int .u8 114, .int .u8 97, .int .u8 119] 5 (4, 5))
  have HW2 := Lib.hid (write_any g S EM.use _ _ r4 (fun _ q => by have : w3.heap.size = g := Option.some.inj q; omega) (H3.out.alloc _) (HT.out.below b4) HGK.out (by have : EM.use.length = 4 := rfl; omega))
  have B4 := Lib.hid b4
  have kc := fun (C : Array Value) (n c : Nat) => Lib.run_convert_bytes_const (P := Tryd.prog) w3 22 5 C n c Tryd.underlying22 Tryd.underlying5
  clear r4 b4
  go_upto_region 4 with (go_at_call 14; refine HW2.out.mono ?_; rintro e w5 ⟨rfl, h5, g5⟩; have H5 := Lib.hid h5; have B5 := Lib.hid (B4.out.grown g5 B4.out.size (fun k hk => by have : g = k := Option.some.inj hk; have := HH.out; omega)); clear h5 g5)
  have hg5 := H5.out.lt
  go_wp2_with fail
  go_ret
  exact ⟨w5.heap.size, g, B5.out.size, by have := HH.out; omega, rfl, ⟨Blk.new w5 _ [.pointer (some ⟨g, 0, none⟩), .int .i64 0] _ rfl, H5.out.alloc _, by omega⟩, B5.out.alloc B5.out.size _⟩
theorem pstaken_nil (w : World) : Calls Tryd.prog 10 #[.pointer none] w fun e w' => e = .returned (.int .i64 0) ∧ w' = w := by
  go_enter Tryd.func10, Tryd.ntmps10
  go_wp2_with fail
  go_ret
  exact ⟨rfl, rfl⟩
theorem pstaken_any (w : World) (x g : Nat) (S : List Nat) (t : Nat) (h : Sc w x g S t) : Calls Tryd.prog 10 #[.pointer (some ⟨x, 0, none⟩)] w fun e w' => e = .returned (.int .i64 (t : Int)) ∧ w' = w := by
  have c1 := h.blk.cell 1 _ rfl
  go_enter Tryd.func10, Tryd.ntmps10
  go_wp2_with fail
  go_ret
  exact ⟨rfl, rfl⟩
theorem psfork_nil (w : World) : Calls Tryd.prog 12 #[.pointer none] w fun e w' => e = .returned (.pointer none) ∧ w' = w := by
  go_enter Tryd.func12, Tryd.ntmps12
  go_wp2_with fail
  go_ret
  exact ⟨rfl, rfl⟩
end Go.Proofs.YtdiljngokbfpcaaDoor
