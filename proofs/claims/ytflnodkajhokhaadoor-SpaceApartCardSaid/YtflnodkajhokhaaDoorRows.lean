/-
  NARROWER THAN 'FOR EVERY INPUT', by the rows' own cells (each row's printed sentence says how): SpaceApart: laid.
  DERIVED. THE GIVEN ROWS OF THIS SEAT. 1 by the template 'for every input the law returns true; each argument reads behind the call as it read before'; 0 by the template 'total and deterministic' (their statements: YtflnodkajhokhaaDoorTotals.lean).
  GIVEN WITH THE SEED: the statements are not yours to turn. If you find one false, say at which input.
  Laid BY PROGRAM, IN A SANDBOX (cutbox-rows.mjs): the forced cells as the released guide's own fill.sh prints them over the translation 0eed3b8a168e6b17… (all of the seat's roots in one cut). By AI agents, Wed Nov 11 2026. No macro, syntax, notation, axiom, sorry.
-/
import Derived.Test.YtflnodkajhokhaaDoorChecked
import GoSem.Claim
import GoSem.ClaimJoined
import GoSem.ClaimMapViews
import Derived.JoinedTies
import Derived.KernelRfl
namespace Go.Proofs.YtflnodkajhokhaaDoor
/- THE CELL 'sum', in the pinned program and in every row, IS THE sha256 OF THE DUMP (.gsa) THAT YtflnodkajhokhaaDoorProg.lean LOADS. Nothing in Lean hashes anything: it is a label: what it is worth is what the hold of that sum in a sandbox is worth. -/
noncomputable def Tryd.pinned : Pinned := { name := "ytflnodkajhokhaadoor", sum := "0eed3b8a168e6b17d0126a97404f60793e0932a324bea2468199eb7eea175810", checked := Tryd.checked }
namespace Rows
def none {H : Type} : Left H := { results := [], args := [] }

/- WHAT THE LISTED PACKAGE-LEVEL VARIABLES READ AS WHEN THE CALL BEGINS. Each datum BY PROGRAM (the guide's laid-datum.mjs) off the statement by which the dump's own 'gosem.cut.vars' lays the variable. In a bare row this is a premise. The card (YtflnodkajhokhaaDoorCards.lean) ties it to the program's text. -/
def laid_reliquary_aes_boxes {H : Type} : DataW H := .agg [.lit (.int .u64 7168736081098796997), .lit (.int .u64 3459159427454053238), .lit (.int .u64 14592447285542078448), .lit (.int .u64 12525815338755191488), .lit (.int .u64 13257914670376810444), .lit (.int .u64 3793691086289383701), .lit (.int .u64 344283217355212186), .lit (.int .u64 509611419942498933), .lit (.int .u64 685440058931436192), .lit (.int .u64 5925565799726264196), .lit (.int .u64 6039609593741226331), .lit (.int .u64 7695453541561555151), .lit (.int .u64 15055440075465503621), .lit (.int .u64 5042064003648233384), .lit (.int .u64 5882616523660278005), .lit (.int .u64 13598295960445776850), .lit (.int .u64 14775206383432713239), .lit (.int .u64 14170433554686482803), .lit (.int .u64 6953927106521370760), .lit (.int .u64 5111225026881653723), .lit (.int .u64 16155038629180613724), .lit (.int .u64 14038754002793260153), .lit (.int .u64 16701660161774014121), .lit (.int .u64 7806696291655396872), .lit (.int .u64 13436530368239285446), .lit (.int .u64 16779695464415857546), .lit (.int .u64 8088101431703500302), .lit (.int .u64 7004601249786043806), .lit (.int .u64 16282931653315759764), .lit (.int .u64 11177520763438967007), .lit (.int .u64 10133531328707445352), .lit (.int .u64 4726858829308148502)]
def laid_reliquary_aes_unboxes {H : Type} : DataW H := .agg [.lit (.int .u64 5911373449769952568), .lit (.int .u64 13781194760934119419), .lit (.int .u64 8999099713528528775), .lit (.int .u64 3787038299304946123), .lit (.int .u64 6087622266588373821), .lit (.int .u64 17171263354857767758), .lit (.int .u64 589586061376169138), .lit (.int .u64 8528588755610358053), .lit (.int .u64 8284642426160191510), .lit (.int .u64 15322473865031300754), .lit (.int .u64 7813824866182609370), .lit (.int .u64 6779402156363324804), .lit (.int .u64 10437280155280659210), .lit (.int .u64 17862498803655066886), .lit (.int .u64 15000398061786566402), .lit (.int .u64 13956581590845065835), .lit (.int .u64 4220173298025618666), .lit (.int .u64 10949042131799697011), .lit (.int .u64 10857180494948021637), .lit (.int .u64 16355164991822094190), .lit (.int .u64 5183953719203054985), .lit (.int .u64 8050010674070863387), .lit (.int .u64 18182789040734107936), .lit (.int .u64 11158724700921486068), .lit (.int .u64 2296176324307830577), .lit (.int .u64 12759278669394930783), .lit (.int .u64 6940468865012156941), .lit (.int .u64 3307184327171349743), .lit (.int .u64 11592330645672228272), .lit (.int .u64 14477871295688317281), .lit (.int .u64 1669433029211706918), .lit (.int .u64 16242535947950951549)]
def laid_reliquary_sha_constants {H : Type} : DataW H := .agg [.lit (.int .u32 1116352408), .lit (.int .u32 1899447441), .lit (.int .u32 3049323471), .lit (.int .u32 3921009573), .lit (.int .u32 961987163), .lit (.int .u32 1508970993), .lit (.int .u32 2453635748), .lit (.int .u32 2870763221), .lit (.int .u32 3624381080), .lit (.int .u32 310598401), .lit (.int .u32 607225278), .lit (.int .u32 1426881987), .lit (.int .u32 1925078388), .lit (.int .u32 2162078206), .lit (.int .u32 2614888103), .lit (.int .u32 3248222580), .lit (.int .u32 3835390401), .lit (.int .u32 4022224774), .lit (.int .u32 264347078), .lit (.int .u32 604807628), .lit (.int .u32 770255983), .lit (.int .u32 1249150122), .lit (.int .u32 1555081692), .lit (.int .u32 1996064986), .lit (.int .u32 2554220882), .lit (.int .u32 2821834349), .lit (.int .u32 2952996808), .lit (.int .u32 3210313671), .lit (.int .u32 3336571891), .lit (.int .u32 3584528711), .lit (.int .u32 113926993), .lit (.int .u32 338241895), .lit (.int .u32 666307205), .lit (.int .u32 773529912), .lit (.int .u32 1294757372), .lit (.int .u32 1396182291), .lit (.int .u32 1695183700), .lit (.int .u32 1986661051), .lit (.int .u32 2177026350), .lit (.int .u32 2456956037), .lit (.int .u32 2730485921), .lit (.int .u32 2820302411), .lit (.int .u32 3259730800), .lit (.int .u32 3345764771), .lit (.int .u32 3516065817), .lit (.int .u32 3600352804), .lit (.int .u32 4094571909), .lit (.int .u32 275423344), .lit (.int .u32 430227734), .lit (.int .u32 506948616), .lit (.int .u32 659060556), .lit (.int .u32 883997877), .lit (.int .u32 958139571), .lit (.int .u32 1322822218), .lit (.int .u32 1537002063), .lit (.int .u32 1747873779), .lit (.int .u32 1955562222), .lit (.int .u32 2024104815), .lit (.int .u32 2227730452), .lit (.int .u32 2361852424), .lit (.int .u32 2428436474), .lit (.int .u32 2756734187), .lit (.int .u32 3204031479), .lit (.int .u32 3329325298)]

/-- 'reliquarylaw16.SpaceApart': WHATEVER THE INPUT: true; the input reads as it did. -/
def spaceApartSpec : ChangeSpec := { name := "spaceApart", fn := fun _ => fun
  | [d1, d2, d3] => { results := [.lit (.bool true)], args := [d1, d2, d3] }
  | _ => none }
def spaceApartRow : OpenClaim := { program := "ytflnodkajhokhaadoor", sum := "0eed3b8a168e6b17d0126a97404f60793e0932a324bea2468199eb7eea175810", func := "reliquary/reliquarylaw16.SpaceApart", spec := "spaceApart", unfollowed := true, recurses := true, named := ["reliquary/sha.constants", "reliquary/aes.boxes", "reliquary/aes.unboxes"], apart := false, laid := [("reliquary/aes.boxes", laid_reliquary_aes_boxes), ("reliquary/aes.unboxes", laid_reliquary_aes_unboxes), ("reliquary/sha.constants", laid_reliquary_sha_constants)] }
def SpaceApartSaid : Prop := spaceApartRow.holds Tryd.pinned (OpenSpec.ofChange spaceApartSpec)

/-- ITS FALSE NEIGHBOUR: 'it returns false'. Refute it at one input. -/
def spaceApartWrong : ChangeSpec := { name := "spaceApart", fn := fun _ => fun
  | [d1, d2, d3] => { results := [.lit (.bool false)], args := [d1, d2, d3] }
  | _ => none }
def SpaceApartWrongFalsely : Prop := spaceApartRow.holds Tryd.pinned (OpenSpec.ofChange spaceApartWrong)

/- THE SECOND FORM. 'bulk': how many values and letters a reading holds, each counted each time it is reached (what is shared counts as often as it is met; a slice's spare places count too). A statement '..UptoSaid' is the law's where the arguments, and the package variables that the reading takes, are together of bulk at most 1048576: NARROWER than '..Said'. Prove '..Said' where nothing that the law and all that it calls make is longer than what came in: it says more and counts as full. Else prove '..UptoSaid'. A law counts once. -/
mutual
def uptoBulk {H : Type} : DataW H → Nat
  | .lit (.string bytes) => bytes.length + 1
  | .lit _ => 1
  | .nil => 1
  | .ptr d => uptoBulk d + 1
  | .slice elems spare => uptoBulkAll elems + uptoBulkAll spare + 1
  | .agg parts => uptoBulkAll parts + 1
  | .iface _ d => uptoBulk d + 1
  | .map entries => uptoBulkEntries entries + 1
  | .held _ => 1
def uptoBulkAll {H : Type} : List (DataW H) → Nat
  | [] => 0
  | d :: r => uptoBulk d + uptoBulkAll r
def uptoBulkEntries {H : Type} : List (Lit × DataW H) → Nat
  | [] => 0
  | x :: r => uptoBulkEntry x + uptoBulkEntries r
def uptoBulkEntry {H : Type} : Lit × DataW H → Nat
  | (.string bytes, d) => bytes.length + uptoBulk d + 1
  | (_, d) => uptoBulk d + 1
 end
def uptoSmall : (H : Type) → List (DataW H) → Bool := fun _ ds => decide (uptoBulkAll ds ≤ 1048576)
def OpenSpec.upto (s : _root_.Go.ChangeSpec) : _root_.Go.OpenSpec := { _root_.Go.OpenSpec.ofChange s with cond := some uptoSmall }

/-- 'reliquarylaw16.SpaceApart', WHERE WHAT IT READS IS OF BULK AT MOST 1048576: true; the input reads as it did. -/
def spaceApartUptoRow : OpenClaim := { program := "ytflnodkajhokhaadoor", sum := "0eed3b8a168e6b17d0126a97404f60793e0932a324bea2468199eb7eea175810", func := "reliquary/reliquarylaw16.SpaceApart", spec := "spaceApart", unfollowed := true, recurses := true, named := ["reliquary/sha.constants", "reliquary/aes.boxes", "reliquary/aes.unboxes"], apart := false, laid := [("reliquary/aes.boxes", laid_reliquary_aes_boxes), ("reliquary/aes.unboxes", laid_reliquary_aes_unboxes), ("reliquary/sha.constants", laid_reliquary_sha_constants)], narrowed := true }
def SpaceApartUptoSaid : Prop := spaceApartUptoRow.holds Tryd.pinned (OpenSpec.upto spaceApartSpec)

end Rows
end Go.Proofs.YtflnodkajhokhaaDoor
