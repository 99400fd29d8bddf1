/-
  NARROWER THAN 'FOR EVERY INPUT', by the rows' own cells (each row's printed sentence says how): XtsSeals: laid · XtsOpens: laid · XtsBack: laid · XtsAlone: laid · XtsBlock: laid.
  DERIVED. THE GIVEN ROWS OF THIS SEAT. 5 by the template 'for every input the law returns true; each argument reads behind the call as it read before'; 0 by the template 'total and deterministic' (their statements: YtmidbmihadhgdaaDoorTotals.lean).
  GIVEN WITH THE SEED: the statements are not yours to turn. If you find one false, say at which input.
  Laid BY PROGRAM, IN A SANDBOX (cutbox-rows.mjs): the forced cells as the released guide's own fill.sh prints them over the translation 5ea9e33d1c4d80fd… (all of the seat's roots in one cut). By AI agents, Wed Nov 11 2026. No macro, syntax, notation, axiom, sorry.
-/
import Derived.Test.YtmidbmihadhgdaaDoorChecked
import GoSem.Claim
import GoSem.ClaimJoined
import GoSem.ClaimMapViews
import Derived.JoinedTies
import Derived.KernelRfl
namespace Go.Proofs.YtmidbmihadhgdaaDoor
/- THE CELL 'sum', in the pinned program and in every row, IS THE sha256 OF THE DUMP (.gsa) THAT YtmidbmihadhgdaaDoorProg.lean LOADS. Nothing in Lean hashes anything: it is a label: what it is worth is what the hold of that sum in a sandbox is worth. -/
noncomputable def Tryd.pinned : Pinned := { name := "ytmidbmihadhgdaadoor", sum := "5ea9e33d1c4d80fd9936767eb4a99d6258107efcd8b32c8b0cc9dd1295192ae6", checked := Tryd.checked }
namespace Rows
def none {H : Type} : Left H := { results := [], args := [] }

/- WHAT THE LISTED PACKAGE-LEVEL VARIABLES READ AS WHEN THE CALL BEGINS. Each datum BY PROGRAM (the guide's laid-datum.mjs) off the statement by which the dump's own 'gosem.cut.vars' lays the variable. In a bare row this is a premise. The card (YtmidbmihadhgdaaDoorCards.lean) ties it to the program's text. -/
def laid_reliquary_aes_boxes {H : Type} : DataW H := .agg [.lit (.int .u64 7168736081098796997), .lit (.int .u64 3459159427454053238), .lit (.int .u64 14592447285542078448), .lit (.int .u64 12525815338755191488), .lit (.int .u64 13257914670376810444), .lit (.int .u64 3793691086289383701), .lit (.int .u64 344283217355212186), .lit (.int .u64 509611419942498933), .lit (.int .u64 685440058931436192), .lit (.int .u64 5925565799726264196), .lit (.int .u64 6039609593741226331), .lit (.int .u64 7695453541561555151), .lit (.int .u64 15055440075465503621), .lit (.int .u64 5042064003648233384), .lit (.int .u64 5882616523660278005), .lit (.int .u64 13598295960445776850), .lit (.int .u64 14775206383432713239), .lit (.int .u64 14170433554686482803), .lit (.int .u64 6953927106521370760), .lit (.int .u64 5111225026881653723), .lit (.int .u64 16155038629180613724), .lit (.int .u64 14038754002793260153), .lit (.int .u64 16701660161774014121), .lit (.int .u64 7806696291655396872), .lit (.int .u64 13436530368239285446), .lit (.int .u64 16779695464415857546), .lit (.int .u64 8088101431703500302), .lit (.int .u64 7004601249786043806), .lit (.int .u64 16282931653315759764), .lit (.int .u64 11177520763438967007), .lit (.int .u64 10133531328707445352), .lit (.int .u64 4726858829308148502)]
def laid_reliquary_aes_unboxes {H : Type} : DataW H := .agg [.lit (.int .u64 5911373449769952568), .lit (.int .u64 13781194760934119419), .lit (.int .u64 8999099713528528775), .lit (.int .u64 3787038299304946123), .lit (.int .u64 6087622266588373821), .lit (.int .u64 17171263354857767758), .lit (.int .u64 589586061376169138), .lit (.int .u64 8528588755610358053), .lit (.int .u64 8284642426160191510), .lit (.int .u64 15322473865031300754), .lit (.int .u64 7813824866182609370), .lit (.int .u64 6779402156363324804), .lit (.int .u64 10437280155280659210), .lit (.int .u64 17862498803655066886), .lit (.int .u64 15000398061786566402), .lit (.int .u64 13956581590845065835), .lit (.int .u64 4220173298025618666), .lit (.int .u64 10949042131799697011), .lit (.int .u64 10857180494948021637), .lit (.int .u64 16355164991822094190), .lit (.int .u64 5183953719203054985), .lit (.int .u64 8050010674070863387), .lit (.int .u64 18182789040734107936), .lit (.int .u64 11158724700921486068), .lit (.int .u64 2296176324307830577), .lit (.int .u64 12759278669394930783), .lit (.int .u64 6940468865012156941), .lit (.int .u64 3307184327171349743), .lit (.int .u64 11592330645672228272), .lit (.int .u64 14477871295688317281), .lit (.int .u64 1669433029211706918), .lit (.int .u64 16242535947950951549)]
def laid_reliquary_reliquaryref06_Box {H : Type} : DataW H := .agg [.lit (.int .u8 99), .lit (.int .u8 124), .lit (.int .u8 119), .lit (.int .u8 123), .lit (.int .u8 242), .lit (.int .u8 107), .lit (.int .u8 111), .lit (.int .u8 197), .lit (.int .u8 48), .lit (.int .u8 1), .lit (.int .u8 103), .lit (.int .u8 43), .lit (.int .u8 254), .lit (.int .u8 215), .lit (.int .u8 171), .lit (.int .u8 118), .lit (.int .u8 202), .lit (.int .u8 130), .lit (.int .u8 201), .lit (.int .u8 125), .lit (.int .u8 250), .lit (.int .u8 89), .lit (.int .u8 71), .lit (.int .u8 240), .lit (.int .u8 173), .lit (.int .u8 212), .lit (.int .u8 162), .lit (.int .u8 175), .lit (.int .u8 156), .lit (.int .u8 164), .lit (.int .u8 114), .lit (.int .u8 192), .lit (.int .u8 183), .lit (.int .u8 253), .lit (.int .u8 147), .lit (.int .u8 38), .lit (.int .u8 54), .lit (.int .u8 63), .lit (.int .u8 247), .lit (.int .u8 204), .lit (.int .u8 52), .lit (.int .u8 165), .lit (.int .u8 229), .lit (.int .u8 241), .lit (.int .u8 113), .lit (.int .u8 216), .lit (.int .u8 49), .lit (.int .u8 21), .lit (.int .u8 4), .lit (.int .u8 199), .lit (.int .u8 35), .lit (.int .u8 195), .lit (.int .u8 24), .lit (.int .u8 150), .lit (.int .u8 5), .lit (.int .u8 154), .lit (.int .u8 7), .lit (.int .u8 18), .lit (.int .u8 128), .lit (.int .u8 226), .lit (.int .u8 235), .lit (.int .u8 39), .lit (.int .u8 178), .lit (.int .u8 117), .lit (.int .u8 9), .lit (.int .u8 131), .lit (.int .u8 44), .lit (.int .u8 26), .lit (.int .u8 27), .lit (.int .u8 110), .lit (.int .u8 90), .lit (.int .u8 160), .lit (.int .u8 82), .lit (.int .u8 59), .lit (.int .u8 214), .lit (.int .u8 179), .lit (.int .u8 41), .lit (.int .u8 227), .lit (.int .u8 47), .lit (.int .u8 132), .lit (.int .u8 83), .lit (.int .u8 209), .lit (.int .u8 0), .lit (.int .u8 237), .lit (.int .u8 32), .lit (.int .u8 252), .lit (.int .u8 177), .lit (.int .u8 91), .lit (.int .u8 106), .lit (.int .u8 203), .lit (.int .u8 190), .lit (.int .u8 57), .lit (.int .u8 74), .lit (.int .u8 76), .lit (.int .u8 88), .lit (.int .u8 207), .lit (.int .u8 208), .lit (.int .u8 239), .lit (.int .u8 170), .lit (.int .u8 251), .lit (.int .u8 67), .lit (.int .u8 77), .lit (.int .u8 51), .lit (.int .u8 133), .lit (.int .u8 69), .lit (.int .u8 249), .lit (.int .u8 2), .lit (.int .u8 127), .lit (.int .u8 80), .lit (.int .u8 60), .lit (.int .u8 159), .lit (.int .u8 168), .lit (.int .u8 81), .lit (.int .u8 163), .lit (.int .u8 64), .lit (.int .u8 143), .lit (.int .u8 146), .lit (.int .u8 157), .lit (.int .u8 56), .lit (.int .u8 245), .lit (.int .u8 188), .lit (.int .u8 182), .lit (.int .u8 218), .lit (.int .u8 33), .lit (.int .u8 16), .lit (.int .u8 255), .lit (.int .u8 243), .lit (.int .u8 210), .lit (.int .u8 205), .lit (.int .u8 12), .lit (.int .u8 19), .lit (.int .u8 236), .lit (.int .u8 95), .lit (.int .u8 151), .lit (.int .u8 68), .lit (.int .u8 23), .lit (.int .u8 196), .lit (.int .u8 167), .lit (.int .u8 126), .lit (.int .u8 61), .lit (.int .u8 100), .lit (.int .u8 93), .lit (.int .u8 25), .lit (.int .u8 115), .lit (.int .u8 96), .lit (.int .u8 129), .lit (.int .u8 79), .lit (.int .u8 220), .lit (.int .u8 34), .lit (.int .u8 42), .lit (.int .u8 144), .lit (.int .u8 136), .lit (.int .u8 70), .lit (.int .u8 238), .lit (.int .u8 184), .lit (.int .u8 20), .lit (.int .u8 222), .lit (.int .u8 94), .lit (.int .u8 11), .lit (.int .u8 219), .lit (.int .u8 224), .lit (.int .u8 50), .lit (.int .u8 58), .lit (.int .u8 10), .lit (.int .u8 73), .lit (.int .u8 6), .lit (.int .u8 36), .lit (.int .u8 92), .lit (.int .u8 194), .lit (.int .u8 211), .lit (.int .u8 172), .lit (.int .u8 98), .lit (.int .u8 145), .lit (.int .u8 149), .lit (.int .u8 228), .lit (.int .u8 121), .lit (.int .u8 231), .lit (.int .u8 200), .lit (.int .u8 55), .lit (.int .u8 109), .lit (.int .u8 141), .lit (.int .u8 213), .lit (.int .u8 78), .lit (.int .u8 169), .lit (.int .u8 108), .lit (.int .u8 86), .lit (.int .u8 244), .lit (.int .u8 234), .lit (.int .u8 101), .lit (.int .u8 122), .lit (.int .u8 174), .lit (.int .u8 8), .lit (.int .u8 186), .lit (.int .u8 120), .lit (.int .u8 37), .lit (.int .u8 46), .lit (.int .u8 28), .lit (.int .u8 166), .lit (.int .u8 180), .lit (.int .u8 198), .lit (.int .u8 232), .lit (.int .u8 221), .lit (.int .u8 116), .lit (.int .u8 31), .lit (.int .u8 75), .lit (.int .u8 189), .lit (.int .u8 139), .lit (.int .u8 138), .lit (.int .u8 112), .lit (.int .u8 62), .lit (.int .u8 181), .lit (.int .u8 102), .lit (.int .u8 72), .lit (.int .u8 3), .lit (.int .u8 246), .lit (.int .u8 14), .lit (.int .u8 97), .lit (.int .u8 53), .lit (.int .u8 87), .lit (.int .u8 185), .lit (.int .u8 134), .lit (.int .u8 193), .lit (.int .u8 29), .lit (.int .u8 158), .lit (.int .u8 225), .lit (.int .u8 248), .lit (.int .u8 152), .lit (.int .u8 17), .lit (.int .u8 105), .lit (.int .u8 217), .lit (.int .u8 142), .lit (.int .u8 148), .lit (.int .u8 155), .lit (.int .u8 30), .lit (.int .u8 135), .lit (.int .u8 233), .lit (.int .u8 206), .lit (.int .u8 85), .lit (.int .u8 40), .lit (.int .u8 223), .lit (.int .u8 140), .lit (.int .u8 161), .lit (.int .u8 137), .lit (.int .u8 13), .lit (.int .u8 191), .lit (.int .u8 230), .lit (.int .u8 66), .lit (.int .u8 104), .lit (.int .u8 65), .lit (.int .u8 153), .lit (.int .u8 45), .lit (.int .u8 15), .lit (.int .u8 176), .lit (.int .u8 84), .lit (.int .u8 187), .lit (.int .u8 22)]

/-- 'reliquarylaw07.XtsSeals': WHATEVER THE INPUT: true; the input reads as it did. -/
def xtsSealsSpec : ChangeSpec := { name := "xtsSeals", fn := fun _ => fun
  | [d1, d2, d3] => { results := [.lit (.bool true)], args := [d1, d2, d3] }
  | _ => none }
def xtsSealsRow : OpenClaim := { program := "ytmidbmihadhgdaadoor", sum := "5ea9e33d1c4d80fd9936767eb4a99d6258107efcd8b32c8b0cc9dd1295192ae6", func := "reliquary/reliquarylaw07.XtsSeals", spec := "xtsSeals", unfollowed := true, recurses := true, named := ["reliquary/aes.boxes", "reliquary/aes.unboxes", "reliquary/reliquaryref06.Box"], apart := false, laid := [("reliquary/aes.boxes", laid_reliquary_aes_boxes), ("reliquary/aes.unboxes", laid_reliquary_aes_unboxes), ("reliquary/reliquaryref06.Box", laid_reliquary_reliquaryref06_Box)] }
def XtsSealsSaid : Prop := xtsSealsRow.holds Tryd.pinned (OpenSpec.ofChange xtsSealsSpec)

/-- ITS FALSE NEIGHBOUR: 'it returns false'. Refute it at one input. -/
def xtsSealsWrong : ChangeSpec := { name := "xtsSeals", fn := fun _ => fun
  | [d1, d2, d3] => { results := [.lit (.bool false)], args := [d1, d2, d3] }
  | _ => none }
def XtsSealsWrongFalsely : Prop := xtsSealsRow.holds Tryd.pinned (OpenSpec.ofChange xtsSealsWrong)

/-- 'reliquarylaw07.XtsOpens': WHATEVER THE INPUT: true; the input reads as it did. -/
def xtsOpensSpec : ChangeSpec := { name := "xtsOpens", fn := fun _ => fun
  | [d1, d2, d3] => { results := [.lit (.bool true)], args := [d1, d2, d3] }
  | _ => none }
def xtsOpensRow : OpenClaim := { program := "ytmidbmihadhgdaadoor", sum := "5ea9e33d1c4d80fd9936767eb4a99d6258107efcd8b32c8b0cc9dd1295192ae6", func := "reliquary/reliquarylaw07.XtsOpens", spec := "xtsOpens", unfollowed := true, recurses := true, named := ["reliquary/aes.boxes", "reliquary/aes.unboxes", "reliquary/reliquaryref06.Box"], apart := false, laid := [("reliquary/aes.boxes", laid_reliquary_aes_boxes), ("reliquary/aes.unboxes", laid_reliquary_aes_unboxes), ("reliquary/reliquaryref06.Box", laid_reliquary_reliquaryref06_Box)] }
def XtsOpensSaid : Prop := xtsOpensRow.holds Tryd.pinned (OpenSpec.ofChange xtsOpensSpec)

/-- ITS FALSE NEIGHBOUR: 'it returns false'. Refute it at one input. -/
def xtsOpensWrong : ChangeSpec := { name := "xtsOpens", fn := fun _ => fun
  | [d1, d2, d3] => { results := [.lit (.bool false)], args := [d1, d2, d3] }
  | _ => none }
def XtsOpensWrongFalsely : Prop := xtsOpensRow.holds Tryd.pinned (OpenSpec.ofChange xtsOpensWrong)

/-- 'reliquarylaw07.XtsBack': WHATEVER THE INPUT: true; the input reads as it did. -/
def xtsBackSpec : ChangeSpec := { name := "xtsBack", fn := fun _ => fun
  | [d1, d2, d3] => { results := [.lit (.bool true)], args := [d1, d2, d3] }
  | _ => none }
def xtsBackRow : OpenClaim := { program := "ytmidbmihadhgdaadoor", sum := "5ea9e33d1c4d80fd9936767eb4a99d6258107efcd8b32c8b0cc9dd1295192ae6", func := "reliquary/reliquarylaw07.XtsBack", spec := "xtsBack", unfollowed := true, recurses := true, named := ["reliquary/aes.boxes", "reliquary/aes.unboxes"], apart := false, laid := [("reliquary/aes.boxes", laid_reliquary_aes_boxes), ("reliquary/aes.unboxes", laid_reliquary_aes_unboxes)] }
def XtsBackSaid : Prop := xtsBackRow.holds Tryd.pinned (OpenSpec.ofChange xtsBackSpec)

/-- ITS FALSE NEIGHBOUR: 'it returns false'. Refute it at one input. -/
def xtsBackWrong : ChangeSpec := { name := "xtsBack", fn := fun _ => fun
  | [d1, d2, d3] => { results := [.lit (.bool false)], args := [d1, d2, d3] }
  | _ => none }
def XtsBackWrongFalsely : Prop := xtsBackRow.holds Tryd.pinned (OpenSpec.ofChange xtsBackWrong)

/-- 'reliquarylaw07.XtsAlone': WHATEVER THE INPUT: true; the input reads as it did. -/
def xtsAloneSpec : ChangeSpec := { name := "xtsAlone", fn := fun _ => fun
  | [d1, d2, d3] => { results := [.lit (.bool true)], args := [d1, d2, d3] }
  | _ => none }
def xtsAloneRow : OpenClaim := { program := "ytmidbmihadhgdaadoor", sum := "5ea9e33d1c4d80fd9936767eb4a99d6258107efcd8b32c8b0cc9dd1295192ae6", func := "reliquary/reliquarylaw07.XtsAlone", spec := "xtsAlone", unfollowed := true, recurses := true, named := ["reliquary/aes.boxes", "reliquary/aes.unboxes"], apart := false, laid := [("reliquary/aes.boxes", laid_reliquary_aes_boxes), ("reliquary/aes.unboxes", laid_reliquary_aes_unboxes)] }
def XtsAloneSaid : Prop := xtsAloneRow.holds Tryd.pinned (OpenSpec.ofChange xtsAloneSpec)

/-- ITS FALSE NEIGHBOUR: 'it returns false'. Refute it at one input. -/
def xtsAloneWrong : ChangeSpec := { name := "xtsAlone", fn := fun _ => fun
  | [d1, d2, d3] => { results := [.lit (.bool false)], args := [d1, d2, d3] }
  | _ => none }
def XtsAloneWrongFalsely : Prop := xtsAloneRow.holds Tryd.pinned (OpenSpec.ofChange xtsAloneWrong)

/-- 'reliquarylaw07.XtsBlock': WHATEVER THE INPUT: true; the input reads as it did. -/
def xtsBlockSpec : ChangeSpec := { name := "xtsBlock", fn := fun _ => fun
  | [d1, d2, d3] => { results := [.lit (.bool true)], args := [d1, d2, d3] }
  | _ => none }
def xtsBlockRow : OpenClaim := { program := "ytmidbmihadhgdaadoor", sum := "5ea9e33d1c4d80fd9936767eb4a99d6258107efcd8b32c8b0cc9dd1295192ae6", func := "reliquary/reliquarylaw07.XtsBlock", spec := "xtsBlock", unfollowed := true, recurses := true, named := ["reliquary/aes.boxes", "reliquary/aes.unboxes"], apart := false, laid := [("reliquary/aes.boxes", laid_reliquary_aes_boxes), ("reliquary/aes.unboxes", laid_reliquary_aes_unboxes)] }
def XtsBlockSaid : Prop := xtsBlockRow.holds Tryd.pinned (OpenSpec.ofChange xtsBlockSpec)

/-- ITS FALSE NEIGHBOUR: 'it returns false'. Refute it at one input. -/
def xtsBlockWrong : ChangeSpec := { name := "xtsBlock", fn := fun _ => fun
  | [d1, d2, d3] => { results := [.lit (.bool false)], args := [d1, d2, d3] }
  | _ => none }
def XtsBlockWrongFalsely : Prop := xtsBlockRow.holds Tryd.pinned (OpenSpec.ofChange xtsBlockWrong)

/- THE SECOND FORM. 'bulk': how many values and letters a reading holds, each counted each time it is reached (what is shared counts as often as it is met; a slice's spare places count too). A statement '..UptoSaid' is the law's where the arguments, and the package variables that the reading takes, are together of bulk at most 1048576: NARROWER than '..Said'. Prove '..Said' where nothing that the law and all that it calls make is longer than what came in: it says more and counts as full. Else prove '..UptoSaid'. A law counts once. -/
mutual
def uptoBulk {H : Type} : DataW H → Nat
  | .lit (.string bytes) => bytes.length + 1
  | .lit _ => 1
  | .nil => 1
  | .ptr d => uptoBulk d + 1
  | .slice elems spare => uptoBulkAll elems + uptoBulkAll spare + 1
  | .agg parts => uptoBulkAll parts + 1
  | .iface _ d => uptoBulk d + 1
  | .map entries => uptoBulkEntries entries + 1
  | .held _ => 1
def uptoBulkAll {H : Type} : List (DataW H) → Nat
  | [] => 0
  | d :: r => uptoBulk d + uptoBulkAll r
def uptoBulkEntries {H : Type} : List (Lit × DataW H) → Nat
  | [] => 0
  | x :: r => uptoBulkEntry x + uptoBulkEntries r
def uptoBulkEntry {H : Type} : Lit × DataW H → Nat
  | (.string bytes, d) => bytes.length + uptoBulk d + 1
  | (_, d) => uptoBulk d + 1
 end
def uptoSmall : (H : Type) → List (DataW H) → Bool := fun _ ds => decide (uptoBulkAll ds ≤ 1048576)
def OpenSpec.upto (s : _root_.Go.ChangeSpec) : _root_.Go.OpenSpec := { _root_.Go.OpenSpec.ofChange s with cond := some uptoSmall }

/-- 'reliquarylaw07.XtsSeals', WHERE WHAT IT READS IS OF BULK AT MOST 1048576: true; the input reads as it did. -/
def xtsSealsUptoRow : OpenClaim := { program := "ytmidbmihadhgdaadoor", sum := "5ea9e33d1c4d80fd9936767eb4a99d6258107efcd8b32c8b0cc9dd1295192ae6", func := "reliquary/reliquarylaw07.XtsSeals", spec := "xtsSeals", unfollowed := true, recurses := true, named := ["reliquary/aes.boxes", "reliquary/aes.unboxes", "reliquary/reliquaryref06.Box"], apart := false, laid := [("reliquary/aes.boxes", laid_reliquary_aes_boxes), ("reliquary/aes.unboxes", laid_reliquary_aes_unboxes), ("reliquary/reliquaryref06.Box", laid_reliquary_reliquaryref06_Box)], narrowed := true }
def XtsSealsUptoSaid : Prop := xtsSealsUptoRow.holds Tryd.pinned (OpenSpec.upto xtsSealsSpec)

/-- 'reliquarylaw07.XtsOpens', WHERE WHAT IT READS IS OF BULK AT MOST 1048576: true; the input reads as it did. -/
def xtsOpensUptoRow : OpenClaim := { program := "ytmidbmihadhgdaadoor", sum := "5ea9e33d1c4d80fd9936767eb4a99d6258107efcd8b32c8b0cc9dd1295192ae6", func := "reliquary/reliquarylaw07.XtsOpens", spec := "xtsOpens", unfollowed := true, recurses := true, named := ["reliquary/aes.boxes", "reliquary/aes.unboxes", "reliquary/reliquaryref06.Box"], apart := false, laid := [("reliquary/aes.boxes", laid_reliquary_aes_boxes), ("reliquary/aes.unboxes", laid_reliquary_aes_unboxes), ("reliquary/reliquaryref06.Box", laid_reliquary_reliquaryref06_Box)], narrowed := true }
def XtsOpensUptoSaid : Prop := xtsOpensUptoRow.holds Tryd.pinned (OpenSpec.upto xtsOpensSpec)

/-- 'reliquarylaw07.XtsBack', WHERE WHAT IT READS IS OF BULK AT MOST 1048576: true; the input reads as it did. -/
def xtsBackUptoRow : OpenClaim := { program := "ytmidbmihadhgdaadoor", sum := "5ea9e33d1c4d80fd9936767eb4a99d6258107efcd8b32c8b0cc9dd1295192ae6", func := "reliquary/reliquarylaw07.XtsBack", spec := "xtsBack", unfollowed := true, recurses := true, named := ["reliquary/aes.boxes", "reliquary/aes.unboxes"], apart := false, laid := [("reliquary/aes.boxes", laid_reliquary_aes_boxes), ("reliquary/aes.unboxes", laid_reliquary_aes_unboxes)], narrowed := true }
def XtsBackUptoSaid : Prop := xtsBackUptoRow.holds Tryd.pinned (OpenSpec.upto xtsBackSpec)

/-- 'reliquarylaw07.XtsAlone', WHERE WHAT IT READS IS OF BULK AT MOST 1048576: true; the input reads as it did. -/
def xtsAloneUptoRow : OpenClaim := { program := "ytmidbmihadhgdaadoor", sum := "5ea9e33d1c4d80fd9936767eb4a99d6258107efcd8b32c8b0cc9dd1295192ae6", func := "reliquary/reliquarylaw07.XtsAlone", spec := "xtsAlone", unfollowed := true, recurses := true, named := ["reliquary/aes.boxes", "reliquary/aes.unboxes"], apart := false, laid := [("reliquary/aes.boxes", laid_reliquary_aes_boxes), ("reliquary/aes.unboxes", laid_reliquary_aes_unboxes)], narrowed := true }
def XtsAloneUptoSaid : Prop := xtsAloneUptoRow.holds Tryd.pinned (OpenSpec.upto xtsAloneSpec)

/-- 'reliquarylaw07.XtsBlock', WHERE WHAT IT READS IS OF BULK AT MOST 1048576: true; the input reads as it did. -/
def xtsBlockUptoRow : OpenClaim := { program := "ytmidbmihadhgdaadoor", sum := "5ea9e33d1c4d80fd9936767eb4a99d6258107efcd8b32c8b0cc9dd1295192ae6", func := "reliquary/reliquarylaw07.XtsBlock", spec := "xtsBlock", unfollowed := true, recurses := true, named := ["reliquary/aes.boxes", "reliquary/aes.unboxes"], apart := false, laid := [("reliquary/aes.boxes", laid_reliquary_aes_boxes), ("reliquary/aes.unboxes", laid_reliquary_aes_unboxes)], narrowed := true }
def XtsBlockUptoSaid : Prop := xtsBlockUptoRow.holds Tryd.pinned (OpenSpec.upto xtsBlockSpec)

end Rows
end Go.Proofs.YtmidbmihadhgdaaDoor
