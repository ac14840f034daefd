/-
  NARROWER THAN 'FOR EVERY INPUT', by the rows' own cells (each row's printed sentence says how): PictureBasics: laid · PictureParts: laid · PictureJoins: laid · PictureTurns: laid · PictureSums: laid · PicturePackets: laid · PictureStreams: laid · PictureTexts: laid · PictureTiles: laid · PictureRound: laid · PictureLinear: laid · PictureFound: laid · PictureBack: laid.
  DERIVED. THE GIVEN ROWS OF THIS SEAT. 13 by the template 'for every input the law returns true; each argument reads behind the call as it read before'; 0 by the template 'total and deterministic' (their statements: YtkjkjhheckfhbaaGreatDoorTotals.lean).
  GIVEN WITH THE SEED: the statements are not yours to turn. If you find one false, say at which input.
  Laid BY PROGRAM, IN A SANDBOX (cutbox-rows.mjs): the forced cells as the released guide's own fill.sh prints them over the translation e0d08d640d3ecc2b… (all of the seat's roots in one cut). By AI agents, Wed Nov 11 2026. No macro, syntax, notation, axiom, sorry.
-/
import Derived.Test.YtkjkjhheckfhbaaGreatDoorChecked
import GoSem.PinnedTables
import GoSem.Claim
import GoSem.ClaimJoined
import GoSem.ClaimMapViews
import Derived.JoinedTies
import Derived.KernelRfl
namespace Go.Proofs.YtkjkjhheckfhbaaGreatDoor
/- THE CELL 'sum', in the pinned program and in every row, IS THE sha256 OF THE DUMP (.gsa) THAT YtkjkjhheckfhbaaGreatDoorProg.lean LOADS. Nothing in Lean hashes anything: it is a label: what it is worth is what the hold of that sum in a sandbox is worth. -/
noncomputable def Tryz.pinned : Pinned := { name := "ytkjkjhheckfhbaagreatdoor", sum := "e0d08d640d3ecc2bbe0b950ba16b10b39f359ec498055db9d206c85b2f3cee56", checked := Tryz.checked }
namespace Rows
def none {H : Type} : Left H := { results := [], args := [] }

/- WHAT THE LISTED PACKAGE-LEVEL VARIABLES READ AS WHEN THE CALL BEGINS. Each datum BY PROGRAM (the guide's laid-datum.mjs) off the statement by which the dump's own 'gosem.cut.vars' lays the variable. In a bare row this is a premise. The card (YtkjkjhheckfhbaaGreatDoorCards.lean) ties it to the program's text. -/
def laid_math_bits_deBruijn32tab {H : Type} : DataW H := .agg [.lit (.int .u8 0), .lit (.int .u8 1), .lit (.int .u8 28), .lit (.int .u8 2), .lit (.int .u8 29), .lit (.int .u8 14), .lit (.int .u8 24), .lit (.int .u8 3), .lit (.int .u8 30), .lit (.int .u8 22), .lit (.int .u8 20), .lit (.int .u8 15), .lit (.int .u8 25), .lit (.int .u8 17), .lit (.int .u8 4), .lit (.int .u8 8), .lit (.int .u8 31), .lit (.int .u8 27), .lit (.int .u8 13), .lit (.int .u8 23), .lit (.int .u8 21), .lit (.int .u8 19), .lit (.int .u8 16), .lit (.int .u8 7), .lit (.int .u8 26), .lit (.int .u8 12), .lit (.int .u8 18), .lit (.int .u8 6), .lit (.int .u8 11), .lit (.int .u8 5), .lit (.int .u8 10), .lit (.int .u8 9)]
def laid_math_bits_deBruijn64tab {H : Type} : DataW H := .agg [.lit (.int .u8 0), .lit (.int .u8 1), .lit (.int .u8 56), .lit (.int .u8 2), .lit (.int .u8 57), .lit (.int .u8 49), .lit (.int .u8 28), .lit (.int .u8 3), .lit (.int .u8 61), .lit (.int .u8 58), .lit (.int .u8 42), .lit (.int .u8 50), .lit (.int .u8 38), .lit (.int .u8 29), .lit (.int .u8 17), .lit (.int .u8 4), .lit (.int .u8 62), .lit (.int .u8 47), .lit (.int .u8 59), .lit (.int .u8 36), .lit (.int .u8 45), .lit (.int .u8 43), .lit (.int .u8 51), .lit (.int .u8 22), .lit (.int .u8 53), .lit (.int .u8 39), .lit (.int .u8 33), .lit (.int .u8 30), .lit (.int .u8 24), .lit (.int .u8 18), .lit (.int .u8 12), .lit (.int .u8 5), .lit (.int .u8 63), .lit (.int .u8 55), .lit (.int .u8 48), .lit (.int .u8 27), .lit (.int .u8 60), .lit (.int .u8 41), .lit (.int .u8 37), .lit (.int .u8 16), .lit (.int .u8 46), .lit (.int .u8 35), .lit (.int .u8 44), .lit (.int .u8 21), .lit (.int .u8 52), .lit (.int .u8 32), .lit (.int .u8 23), .lit (.int .u8 11), .lit (.int .u8 54), .lit (.int .u8 26), .lit (.int .u8 40), .lit (.int .u8 15), .lit (.int .u8 34), .lit (.int .u8 20), .lit (.int .u8 31), .lit (.int .u8 10), .lit (.int .u8 25), .lit (.int .u8 14), .lit (.int .u8 19), .lit (.int .u8 9), .lit (.int .u8 13), .lit (.int .u8 8), .lit (.int .u8 7), .lit (.int .u8 6)]
def laid_internal_strconv_uint64pow10 {H : Type} : DataW H := .agg [.lit (.int .u64 1), .lit (.int .u64 10), .lit (.int .u64 100), .lit (.int .u64 1000), .lit (.int .u64 10000), .lit (.int .u64 100000), .lit (.int .u64 1000000), .lit (.int .u64 10000000), .lit (.int .u64 100000000), .lit (.int .u64 1000000000), .lit (.int .u64 10000000000), .lit (.int .u64 100000000000), .lit (.int .u64 1000000000000), .lit (.int .u64 10000000000000), .lit (.int .u64 100000000000000), .lit (.int .u64 1000000000000000), .lit (.int .u64 10000000000000000), .lit (.int .u64 100000000000000000), .lit (.int .u64 1000000000000000000), .lit (.int .u64 10000000000000000000)]
def laid_genlock_common_powers {H : Type} : DataW H := .agg [.agg [.lit (.int .i64 1), .lit (.int .i64 0)], .agg [.lit (.int .i64 0), .lit (.int .i64 (-1))], .agg [.lit (.int .i64 (-1)), .lit (.int .i64 0)], .agg [.lit (.int .i64 0), .lit (.int .i64 1)]]
def laid_unicode_utf8_acceptRanges {H : Type} : DataW H := .agg [.agg [.lit (.int .u8 128), .lit (.int .u8 191)], .agg [.lit (.int .u8 160), .lit (.int .u8 191)], .agg [.lit (.int .u8 128), .lit (.int .u8 159)], .agg [.lit (.int .u8 144), .lit (.int .u8 191)], .agg [.lit (.int .u8 128), .lit (.int .u8 143)], .agg [.lit (.int .u8 0), .lit (.int .u8 0)], .agg [.lit (.int .u8 0), .lit (.int .u8 0)], .agg [.lit (.int .u8 0), .lit (.int .u8 0)], .agg [.lit (.int .u8 0), .lit (.int .u8 0)], .agg [.lit (.int .u8 0), .lit (.int .u8 0)], .agg [.lit (.int .u8 0), .lit (.int .u8 0)], .agg [.lit (.int .u8 0), .lit (.int .u8 0)], .agg [.lit (.int .u8 0), .lit (.int .u8 0)], .agg [.lit (.int .u8 0), .lit (.int .u8 0)], .agg [.lit (.int .u8 0), .lit (.int .u8 0)], .agg [.lit (.int .u8 0), .lit (.int .u8 0)]]
/-- One of Go's own tables, pinned by name: the form's constant. -/
def laid_unicode_utf8_first : DataW Unit := Go.Pinned.utf8First

/-- 'genlocklaw01.PictureBasics': WHATEVER THE INPUT: true; the input reads as it did. -/
def pictureBasicsSpec : ChangeSpec := { name := "pictureBasics", fn := fun _ => fun
  | [d1, d2, d3] => { results := [.lit (.bool true)], args := [d1, d2, d3] }
  | _ => none }
def pictureBasicsRow : OpenClaim := { program := "ytkjkjhheckfhbaagreatdoor", sum := "e0d08d640d3ecc2bbe0b950ba16b10b39f359ec498055db9d206c85b2f3cee56", func := "genlock/genlocklaw01.PictureBasics", spec := "pictureBasics", inPlace := ["math.Float64bits", "math.Float64frombits", "math.archTrunc", "math.Float32bits", "internal/abi.NoEscape", "internal/bytealg.MakeNoZero", "math.archFloor"], unfollowed := true, recurses := true, named := ["genlock/common.powers", "internal/strconv.uint64pow10", "math/bits.deBruijn32tab", "math/bits.deBruijn64tab"], apart := false, laid := [("math/bits.deBruijn32tab", laid_math_bits_deBruijn32tab), ("math/bits.deBruijn64tab", laid_math_bits_deBruijn64tab), ("internal/strconv.uint64pow10", laid_internal_strconv_uint64pow10), ("genlock/common.powers", laid_genlock_common_powers)] }
def PictureBasicsSaid : Prop := pictureBasicsRow.holds Tryz.pinned (OpenSpec.ofChange pictureBasicsSpec)

/-- ITS FALSE NEIGHBOUR: 'it returns false'. Refute it at one input. -/
def pictureBasicsWrong : ChangeSpec := { name := "pictureBasics", fn := fun _ => fun
  | [d1, d2, d3] => { results := [.lit (.bool false)], args := [d1, d2, d3] }
  | _ => none }
def PictureBasicsWrongFalsely : Prop := pictureBasicsRow.holds Tryz.pinned (OpenSpec.ofChange pictureBasicsWrong)

/-- 'genlocklaw01.PictureParts': WHATEVER THE INPUT: true; the input reads as it did. -/
def picturePartsSpec : ChangeSpec := { name := "pictureParts", fn := fun _ => fun
  | [d1, d2] => { results := [.lit (.bool true)], args := [d1, d2] }
  | _ => none }
def picturePartsRow : OpenClaim := { program := "ytkjkjhheckfhbaagreatdoor", sum := "e0d08d640d3ecc2bbe0b950ba16b10b39f359ec498055db9d206c85b2f3cee56", func := "genlock/genlocklaw01.PictureParts", spec := "pictureParts", inPlace := ["math.Float64bits", "math.Float64frombits", "math.archTrunc", "math.Float32bits", "internal/abi.NoEscape", "internal/bytealg.MakeNoZero", "math.archFloor"], unfollowed := true, recurses := true, named := ["genlock/common.powers", "internal/strconv.uint64pow10", "math/bits.deBruijn32tab", "math/bits.deBruijn64tab"], apart := false, laid := [("math/bits.deBruijn32tab", laid_math_bits_deBruijn32tab), ("math/bits.deBruijn64tab", laid_math_bits_deBruijn64tab), ("internal/strconv.uint64pow10", laid_internal_strconv_uint64pow10), ("genlock/common.powers", laid_genlock_common_powers)] }
def PicturePartsSaid : Prop := picturePartsRow.holds Tryz.pinned (OpenSpec.ofChange picturePartsSpec)

/-- ITS FALSE NEIGHBOUR: 'it returns false'. Refute it at one input. -/
def picturePartsWrong : ChangeSpec := { name := "pictureParts", fn := fun _ => fun
  | [d1, d2] => { results := [.lit (.bool false)], args := [d1, d2] }
  | _ => none }
def PicturePartsWrongFalsely : Prop := picturePartsRow.holds Tryz.pinned (OpenSpec.ofChange picturePartsWrong)

/-- 'genlocklaw01.PictureJoins': WHATEVER THE INPUT: true; the input reads as it did. -/
def pictureJoinsSpec : ChangeSpec := { name := "pictureJoins", fn := fun _ => fun
  | [d1, d2] => { results := [.lit (.bool true)], args := [d1, d2] }
  | _ => none }
def pictureJoinsRow : OpenClaim := { program := "ytkjkjhheckfhbaagreatdoor", sum := "e0d08d640d3ecc2bbe0b950ba16b10b39f359ec498055db9d206c85b2f3cee56", func := "genlock/genlocklaw01.PictureJoins", spec := "pictureJoins", inPlace := ["math.Float64bits", "math.Float64frombits", "math.archTrunc", "math.Float32bits", "internal/abi.NoEscape", "internal/bytealg.MakeNoZero", "math.archFloor"], unfollowed := true, recurses := true, named := ["genlock/common.powers", "internal/strconv.uint64pow10", "math/bits.deBruijn32tab", "math/bits.deBruijn64tab"], apart := false, laid := [("math/bits.deBruijn32tab", laid_math_bits_deBruijn32tab), ("math/bits.deBruijn64tab", laid_math_bits_deBruijn64tab), ("internal/strconv.uint64pow10", laid_internal_strconv_uint64pow10), ("genlock/common.powers", laid_genlock_common_powers)] }
def PictureJoinsSaid : Prop := pictureJoinsRow.holds Tryz.pinned (OpenSpec.ofChange pictureJoinsSpec)

/-- ITS FALSE NEIGHBOUR: 'it returns false'. Refute it at one input. -/
def pictureJoinsWrong : ChangeSpec := { name := "pictureJoins", fn := fun _ => fun
  | [d1, d2] => { results := [.lit (.bool false)], args := [d1, d2] }
  | _ => none }
def PictureJoinsWrongFalsely : Prop := pictureJoinsRow.holds Tryz.pinned (OpenSpec.ofChange pictureJoinsWrong)

/-- 'genlocklaw01.PictureTurns': WHATEVER THE INPUT: true; the input reads as it did. -/
def pictureTurnsSpec : ChangeSpec := { name := "pictureTurns", fn := fun _ => fun
  | [d] => { results := [.lit (.bool true)], args := [d] }
  | _ => none }
def pictureTurnsRow : OpenClaim := { program := "ytkjkjhheckfhbaagreatdoor", sum := "e0d08d640d3ecc2bbe0b950ba16b10b39f359ec498055db9d206c85b2f3cee56", func := "genlock/genlocklaw01.PictureTurns", spec := "pictureTurns", inPlace := ["math.Float64bits", "math.Float64frombits", "math.archTrunc", "math.Float32bits", "internal/abi.NoEscape", "internal/bytealg.MakeNoZero", "math.archFloor"], unfollowed := true, recurses := true, named := ["genlock/common.powers", "internal/strconv.uint64pow10", "math/bits.deBruijn32tab", "math/bits.deBruijn64tab"], apart := false, laid := [("math/bits.deBruijn32tab", laid_math_bits_deBruijn32tab), ("math/bits.deBruijn64tab", laid_math_bits_deBruijn64tab), ("internal/strconv.uint64pow10", laid_internal_strconv_uint64pow10), ("genlock/common.powers", laid_genlock_common_powers)] }
def PictureTurnsSaid : Prop := pictureTurnsRow.holds Tryz.pinned (OpenSpec.ofChange pictureTurnsSpec)

/-- ITS FALSE NEIGHBOUR: 'it returns false'. Refute it at one input. -/
def pictureTurnsWrong : ChangeSpec := { name := "pictureTurns", fn := fun _ => fun
  | [d] => { results := [.lit (.bool false)], args := [d] }
  | _ => none }
def PictureTurnsWrongFalsely : Prop := pictureTurnsRow.holds Tryz.pinned (OpenSpec.ofChange pictureTurnsWrong)

/-- 'genlocklaw01.PictureSums': WHATEVER THE INPUT: true; the input reads as it did. -/
def pictureSumsSpec : ChangeSpec := { name := "pictureSums", fn := fun _ => fun
  | [d1, d2, d3] => { results := [.lit (.bool true)], args := [d1, d2, d3] }
  | _ => none }
def pictureSumsRow : OpenClaim := { program := "ytkjkjhheckfhbaagreatdoor", sum := "e0d08d640d3ecc2bbe0b950ba16b10b39f359ec498055db9d206c85b2f3cee56", func := "genlock/genlocklaw01.PictureSums", spec := "pictureSums", inPlace := ["math.Float64bits", "math.Float64frombits", "math.archTrunc", "math.Float32bits", "internal/abi.NoEscape", "internal/bytealg.MakeNoZero", "math.archFloor"], unfollowed := true, recurses := true, named := ["genlock/common.powers", "internal/strconv.uint64pow10", "math/bits.deBruijn32tab", "math/bits.deBruijn64tab"], apart := false, laid := [("math/bits.deBruijn32tab", laid_math_bits_deBruijn32tab), ("math/bits.deBruijn64tab", laid_math_bits_deBruijn64tab), ("internal/strconv.uint64pow10", laid_internal_strconv_uint64pow10), ("genlock/common.powers", laid_genlock_common_powers)] }
def PictureSumsSaid : Prop := pictureSumsRow.holds Tryz.pinned (OpenSpec.ofChange pictureSumsSpec)

/-- ITS FALSE NEIGHBOUR: 'it returns false'. Refute it at one input. -/
def pictureSumsWrong : ChangeSpec := { name := "pictureSums", fn := fun _ => fun
  | [d1, d2, d3] => { results := [.lit (.bool false)], args := [d1, d2, d3] }
  | _ => none }
def PictureSumsWrongFalsely : Prop := pictureSumsRow.holds Tryz.pinned (OpenSpec.ofChange pictureSumsWrong)

/-- 'genlocklaw01.PicturePackets': WHATEVER THE INPUT: true; the input reads as it did. -/
def picturePacketsSpec : ChangeSpec := { name := "picturePackets", fn := fun _ => fun
  | [d1, d2, d3] => { results := [.lit (.bool true)], args := [d1, d2, d3] }
  | _ => none }
def picturePacketsRow : OpenClaim := { program := "ytkjkjhheckfhbaagreatdoor", sum := "e0d08d640d3ecc2bbe0b950ba16b10b39f359ec498055db9d206c85b2f3cee56", func := "genlock/genlocklaw01.PicturePackets", spec := "picturePackets", inPlace := ["math.Float64bits", "math.Float64frombits", "math.archTrunc", "math.Float32bits", "internal/abi.NoEscape", "internal/bytealg.MakeNoZero"], unfollowed := true, recurses := true, named := ["genlock/common.powers", "internal/strconv.uint64pow10", "math/bits.deBruijn32tab", "math/bits.deBruijn64tab"], apart := false, laid := [("math/bits.deBruijn32tab", laid_math_bits_deBruijn32tab), ("math/bits.deBruijn64tab", laid_math_bits_deBruijn64tab), ("internal/strconv.uint64pow10", laid_internal_strconv_uint64pow10), ("genlock/common.powers", laid_genlock_common_powers)] }
def PicturePacketsSaid : Prop := picturePacketsRow.holds Tryz.pinned (OpenSpec.ofChange picturePacketsSpec)

/-- ITS FALSE NEIGHBOUR: 'it returns false'. Refute it at one input. -/
def picturePacketsWrong : ChangeSpec := { name := "picturePackets", fn := fun _ => fun
  | [d1, d2, d3] => { results := [.lit (.bool false)], args := [d1, d2, d3] }
  | _ => none }
def PicturePacketsWrongFalsely : Prop := picturePacketsRow.holds Tryz.pinned (OpenSpec.ofChange picturePacketsWrong)

/-- 'genlocklaw01.PictureStreams': WHATEVER THE INPUT: true; the input reads as it did. -/
def pictureStreamsSpec : ChangeSpec := { name := "pictureStreams", fn := fun _ => fun
  | [d] => { results := [.lit (.bool true)], args := [d] }
  | _ => none }
def pictureStreamsRow : OpenClaim := { program := "ytkjkjhheckfhbaagreatdoor", sum := "e0d08d640d3ecc2bbe0b950ba16b10b39f359ec498055db9d206c85b2f3cee56", func := "genlock/genlocklaw01.PictureStreams", spec := "pictureStreams", inPlace := ["math.Float64bits", "math.Float64frombits", "math.archTrunc", "math.Float32bits", "internal/abi.NoEscape", "internal/bytealg.MakeNoZero"], unfollowed := true, recurses := true, named := ["genlock/common.powers", "internal/strconv.uint64pow10", "math/bits.deBruijn32tab", "math/bits.deBruijn64tab"], apart := false, laid := [("math/bits.deBruijn32tab", laid_math_bits_deBruijn32tab), ("math/bits.deBruijn64tab", laid_math_bits_deBruijn64tab), ("internal/strconv.uint64pow10", laid_internal_strconv_uint64pow10), ("genlock/common.powers", laid_genlock_common_powers)] }
def PictureStreamsSaid : Prop := pictureStreamsRow.holds Tryz.pinned (OpenSpec.ofChange pictureStreamsSpec)

/-- ITS FALSE NEIGHBOUR: 'it returns false'. Refute it at one input. -/
def pictureStreamsWrong : ChangeSpec := { name := "pictureStreams", fn := fun _ => fun
  | [d] => { results := [.lit (.bool false)], args := [d] }
  | _ => none }
def PictureStreamsWrongFalsely : Prop := pictureStreamsRow.holds Tryz.pinned (OpenSpec.ofChange pictureStreamsWrong)

/-- 'genlocklaw01.PictureTexts': WHATEVER THE INPUT: true; the input reads as it did. -/
def pictureTextsSpec : ChangeSpec := { name := "pictureTexts", fn := fun _ => fun
  | [d1, d2, d3] => { results := [.lit (.bool true)], args := [d1, d2, d3] }
  | _ => none }
def pictureTextsRow : OpenClaim := { program := "ytkjkjhheckfhbaagreatdoor", sum := "e0d08d640d3ecc2bbe0b950ba16b10b39f359ec498055db9d206c85b2f3cee56", func := "genlock/genlocklaw01.PictureTexts", spec := "pictureTexts", inPlace := ["math.Float64bits", "math.Float64frombits", "math.archTrunc", "math.Float32bits", "internal/abi.NoEscape", "internal/bytealg.MakeNoZero", "internal/bytealg.CountString", "internal/bytealg.IndexByteString", "internal/bytealg.IndexString", "math.Float32frombits", "math.archFloor"], unfollowed := true, recurses := true, named := ["genlock/common.powers", "internal/strconv.uint64pow10", "math/bits.deBruijn32tab", "math/bits.deBruijn64tab", "unicode/utf8.first", "unicode/utf8.acceptRanges", "internal/bytealg.MaxLen"], apart := false, laid := [("math/bits.deBruijn32tab", laid_math_bits_deBruijn32tab), ("math/bits.deBruijn64tab", laid_math_bits_deBruijn64tab), ("internal/strconv.uint64pow10", laid_internal_strconv_uint64pow10), ("unicode/utf8.acceptRanges", laid_unicode_utf8_acceptRanges), ("genlock/common.powers", laid_genlock_common_powers), ("unicode/utf8.first", laid_unicode_utf8_first)] }
def PictureTextsSaid : Prop := pictureTextsRow.holds Tryz.pinned (OpenSpec.ofChange pictureTextsSpec)

/-- ITS FALSE NEIGHBOUR: 'it returns false'. Refute it at one input. -/
def pictureTextsWrong : ChangeSpec := { name := "pictureTexts", fn := fun _ => fun
  | [d1, d2, d3] => { results := [.lit (.bool false)], args := [d1, d2, d3] }
  | _ => none }
def PictureTextsWrongFalsely : Prop := pictureTextsRow.holds Tryz.pinned (OpenSpec.ofChange pictureTextsWrong)

/-- 'genlocklaw01.PictureTiles': WHATEVER THE INPUT: true; the input reads as it did. -/
def pictureTilesSpec : ChangeSpec := { name := "pictureTiles", fn := fun _ => fun
  | [d1, d2] => { results := [.lit (.bool true)], args := [d1, d2] }
  | _ => none }
def pictureTilesRow : OpenClaim := { program := "ytkjkjhheckfhbaagreatdoor", sum := "e0d08d640d3ecc2bbe0b950ba16b10b39f359ec498055db9d206c85b2f3cee56", func := "genlock/genlocklaw01.PictureTiles", spec := "pictureTiles", inPlace := ["math.Float64bits", "math.Float64frombits", "math.archFloor", "math.archTrunc", "math.Float32bits", "internal/abi.NoEscape", "internal/bytealg.MakeNoZero"], unfollowed := true, recurses := true, named := ["genlock/common.powers", "internal/strconv.uint64pow10", "math/bits.deBruijn32tab", "math/bits.deBruijn64tab"], apart := false, laid := [("math/bits.deBruijn32tab", laid_math_bits_deBruijn32tab), ("math/bits.deBruijn64tab", laid_math_bits_deBruijn64tab), ("internal/strconv.uint64pow10", laid_internal_strconv_uint64pow10), ("genlock/common.powers", laid_genlock_common_powers)] }
def PictureTilesSaid : Prop := pictureTilesRow.holds Tryz.pinned (OpenSpec.ofChange pictureTilesSpec)

/-- ITS FALSE NEIGHBOUR: 'it returns false'. Refute it at one input. -/
def pictureTilesWrong : ChangeSpec := { name := "pictureTiles", fn := fun _ => fun
  | [d1, d2] => { results := [.lit (.bool false)], args := [d1, d2] }
  | _ => none }
def PictureTilesWrongFalsely : Prop := pictureTilesRow.holds Tryz.pinned (OpenSpec.ofChange pictureTilesWrong)

/-- 'genlocklaw01.PictureRound': WHATEVER THE INPUT: true; the input reads as it did. -/
def pictureRoundSpec : ChangeSpec := { name := "pictureRound", fn := fun _ => fun
  | [d] => { results := [.lit (.bool true)], args := [d] }
  | _ => none }
def pictureRoundRow : OpenClaim := { program := "ytkjkjhheckfhbaagreatdoor", sum := "e0d08d640d3ecc2bbe0b950ba16b10b39f359ec498055db9d206c85b2f3cee56", func := "genlock/genlocklaw01.PictureRound", spec := "pictureRound", inPlace := ["math.Float64bits", "math.Float64frombits", "math.archFloor", "math.archTrunc", "math.Float32bits", "internal/abi.NoEscape", "internal/bytealg.MakeNoZero"], unfollowed := true, recurses := true, named := ["genlock/common.powers", "internal/strconv.uint64pow10", "math/bits.deBruijn32tab", "math/bits.deBruijn64tab"], apart := false, laid := [("math/bits.deBruijn32tab", laid_math_bits_deBruijn32tab), ("math/bits.deBruijn64tab", laid_math_bits_deBruijn64tab), ("internal/strconv.uint64pow10", laid_internal_strconv_uint64pow10), ("genlock/common.powers", laid_genlock_common_powers)] }
def PictureRoundSaid : Prop := pictureRoundRow.holds Tryz.pinned (OpenSpec.ofChange pictureRoundSpec)

/-- ITS FALSE NEIGHBOUR: 'it returns false'. Refute it at one input. -/
def pictureRoundWrong : ChangeSpec := { name := "pictureRound", fn := fun _ => fun
  | [d] => { results := [.lit (.bool false)], args := [d] }
  | _ => none }
def PictureRoundWrongFalsely : Prop := pictureRoundRow.holds Tryz.pinned (OpenSpec.ofChange pictureRoundWrong)

/-- 'genlocklaw01.PictureLinear': WHATEVER THE INPUT: true; the input reads as it did. -/
def pictureLinearSpec : ChangeSpec := { name := "pictureLinear", fn := fun _ => fun
  | [d1, d2, d3] => { results := [.lit (.bool true)], args := [d1, d2, d3] }
  | _ => none }
def pictureLinearRow : OpenClaim := { program := "ytkjkjhheckfhbaagreatdoor", sum := "e0d08d640d3ecc2bbe0b950ba16b10b39f359ec498055db9d206c85b2f3cee56", func := "genlock/genlocklaw01.PictureLinear", spec := "pictureLinear", inPlace := ["math.Float64bits", "math.Float64frombits", "math.archFloor", "math.archTrunc", "math.Float32bits", "internal/abi.NoEscape", "internal/bytealg.MakeNoZero"], unfollowed := true, recurses := true, named := ["genlock/common.powers", "internal/strconv.uint64pow10", "math/bits.deBruijn32tab", "math/bits.deBruijn64tab"], apart := false, laid := [("math/bits.deBruijn32tab", laid_math_bits_deBruijn32tab), ("math/bits.deBruijn64tab", laid_math_bits_deBruijn64tab), ("internal/strconv.uint64pow10", laid_internal_strconv_uint64pow10), ("genlock/common.powers", laid_genlock_common_powers)] }
def PictureLinearSaid : Prop := pictureLinearRow.holds Tryz.pinned (OpenSpec.ofChange pictureLinearSpec)

/-- ITS FALSE NEIGHBOUR: 'it returns false'. Refute it at one input. -/
def pictureLinearWrong : ChangeSpec := { name := "pictureLinear", fn := fun _ => fun
  | [d1, d2, d3] => { results := [.lit (.bool false)], args := [d1, d2, d3] }
  | _ => none }
def PictureLinearWrongFalsely : Prop := pictureLinearRow.holds Tryz.pinned (OpenSpec.ofChange pictureLinearWrong)

/-- 'genlocklaw01.PictureFound': WHATEVER THE INPUT: true; the input reads as it did. -/
def pictureFoundSpec : ChangeSpec := { name := "pictureFound", fn := fun _ => fun
  | [d1, d2, d3] => { results := [.lit (.bool true)], args := [d1, d2, d3] }
  | _ => none }
def pictureFoundRow : OpenClaim := { program := "ytkjkjhheckfhbaagreatdoor", sum := "e0d08d640d3ecc2bbe0b950ba16b10b39f359ec498055db9d206c85b2f3cee56", func := "genlock/genlocklaw01.PictureFound", spec := "pictureFound", inPlace := ["math.Float64bits", "math.Float64frombits", "math.archTrunc", "math.Float32bits", "internal/abi.NoEscape", "internal/bytealg.MakeNoZero"], unfollowed := true, recurses := true, named := ["genlock/common.powers", "internal/strconv.uint64pow10", "math/bits.deBruijn32tab", "math/bits.deBruijn64tab"], apart := false, laid := [("math/bits.deBruijn32tab", laid_math_bits_deBruijn32tab), ("math/bits.deBruijn64tab", laid_math_bits_deBruijn64tab), ("internal/strconv.uint64pow10", laid_internal_strconv_uint64pow10), ("genlock/common.powers", laid_genlock_common_powers)] }
def PictureFoundSaid : Prop := pictureFoundRow.holds Tryz.pinned (OpenSpec.ofChange pictureFoundSpec)

/-- ITS FALSE NEIGHBOUR: 'it returns false'. Refute it at one input. -/
def pictureFoundWrong : ChangeSpec := { name := "pictureFound", fn := fun _ => fun
  | [d1, d2, d3] => { results := [.lit (.bool false)], args := [d1, d2, d3] }
  | _ => none }
def PictureFoundWrongFalsely : Prop := pictureFoundRow.holds Tryz.pinned (OpenSpec.ofChange pictureFoundWrong)

/-- 'genlocklaw01.PictureBack': WHATEVER THE INPUT: true; the input reads as it did. -/
def pictureBackSpec : ChangeSpec := { name := "pictureBack", fn := fun _ => fun
  | [d1, d2] => { results := [.lit (.bool true)], args := [d1, d2] }
  | _ => none }
def pictureBackRow : OpenClaim := { program := "ytkjkjhheckfhbaagreatdoor", sum := "e0d08d640d3ecc2bbe0b950ba16b10b39f359ec498055db9d206c85b2f3cee56", func := "genlock/genlocklaw01.PictureBack", spec := "pictureBack", inPlace := ["math.Float64bits", "math.Float64frombits", "math.archFloor", "math.archTrunc", "math.Float32bits", "internal/abi.NoEscape", "internal/bytealg.MakeNoZero", "internal/bytealg.CountString", "internal/bytealg.IndexByteString", "internal/bytealg.IndexString", "math.Float32frombits"], unfollowed := true, recurses := true, named := ["genlock/common.powers", "internal/strconv.uint64pow10", "math/bits.deBruijn32tab", "math/bits.deBruijn64tab", "unicode/utf8.first", "unicode/utf8.acceptRanges", "internal/bytealg.MaxLen"], apart := false, laid := [("math/bits.deBruijn32tab", laid_math_bits_deBruijn32tab), ("math/bits.deBruijn64tab", laid_math_bits_deBruijn64tab), ("internal/strconv.uint64pow10", laid_internal_strconv_uint64pow10), ("unicode/utf8.acceptRanges", laid_unicode_utf8_acceptRanges), ("genlock/common.powers", laid_genlock_common_powers), ("unicode/utf8.first", laid_unicode_utf8_first)] }
def PictureBackSaid : Prop := pictureBackRow.holds Tryz.pinned (OpenSpec.ofChange pictureBackSpec)

/-- ITS FALSE NEIGHBOUR: 'it returns false'. Refute it at one input. -/
def pictureBackWrong : ChangeSpec := { name := "pictureBack", fn := fun _ => fun
  | [d1, d2] => { results := [.lit (.bool false)], args := [d1, d2] }
  | _ => none }
def PictureBackWrongFalsely : Prop := pictureBackRow.holds Tryz.pinned (OpenSpec.ofChange pictureBackWrong)

/- THE SECOND FORM. 'bulk': how many values and letters a reading holds, each counted each time it is reached (what is shared counts as often as it is met; a slice's spare places count too). A statement '..UptoSaid' is the law's where the arguments, and the package variables that the reading takes, are together of bulk at most 1048576: NARROWER than '..Said'. Prove '..Said' where nothing that the law and all that it calls make is longer than what came in: it says more and counts as full. Else prove '..UptoSaid'. A law counts once. -/
mutual
def uptoBulk {H : Type} : DataW H → Nat
  | .lit (.string bytes) => bytes.length + 1
  | .lit _ => 1
  | .nil => 1
  | .ptr d => uptoBulk d + 1
  | .slice elems spare => uptoBulkAll elems + uptoBulkAll spare + 1
  | .agg parts => uptoBulkAll parts + 1
  | .iface _ d => uptoBulk d + 1
  | .map entries => uptoBulkEntries entries + 1
  | .held _ => 1
def uptoBulkAll {H : Type} : List (DataW H) → Nat
  | [] => 0
  | d :: r => uptoBulk d + uptoBulkAll r
def uptoBulkEntries {H : Type} : List (Lit × DataW H) → Nat
  | [] => 0
  | x :: r => uptoBulkEntry x + uptoBulkEntries r
def uptoBulkEntry {H : Type} : Lit × DataW H → Nat
  | (.string bytes, d) => bytes.length + uptoBulk d + 1
  | (_, d) => uptoBulk d + 1
 end
def uptoSmall : (H : Type) → List (DataW H) → Bool := fun _ ds => decide (uptoBulkAll ds ≤ 1048576)
def OpenSpec.upto (s : _root_.Go.ChangeSpec) : _root_.Go.OpenSpec := { _root_.Go.OpenSpec.ofChange s with cond := some uptoSmall }

/-- 'genlocklaw01.PictureBasics', WHERE WHAT IT READS IS OF BULK AT MOST 1048576: true; the input reads as it did. -/
def pictureBasicsUptoRow : OpenClaim := { program := "ytkjkjhheckfhbaagreatdoor", sum := "e0d08d640d3ecc2bbe0b950ba16b10b39f359ec498055db9d206c85b2f3cee56", func := "genlock/genlocklaw01.PictureBasics", spec := "pictureBasics", inPlace := ["math.Float64bits", "math.Float64frombits", "math.archTrunc", "math.Float32bits", "internal/abi.NoEscape", "internal/bytealg.MakeNoZero", "math.archFloor"], unfollowed := true, recurses := true, named := ["genlock/common.powers", "internal/strconv.uint64pow10", "math/bits.deBruijn32tab", "math/bits.deBruijn64tab"], apart := false, laid := [("math/bits.deBruijn32tab", laid_math_bits_deBruijn32tab), ("math/bits.deBruijn64tab", laid_math_bits_deBruijn64tab), ("internal/strconv.uint64pow10", laid_internal_strconv_uint64pow10), ("genlock/common.powers", laid_genlock_common_powers)], narrowed := true }
def PictureBasicsUptoSaid : Prop := pictureBasicsUptoRow.holds Tryz.pinned (OpenSpec.upto pictureBasicsSpec)

/-- 'genlocklaw01.PictureParts', WHERE WHAT IT READS IS OF BULK AT MOST 1048576: true; the input reads as it did. -/
def picturePartsUptoRow : OpenClaim := { program := "ytkjkjhheckfhbaagreatdoor", sum := "e0d08d640d3ecc2bbe0b950ba16b10b39f359ec498055db9d206c85b2f3cee56", func := "genlock/genlocklaw01.PictureParts", spec := "pictureParts", inPlace := ["math.Float64bits", "math.Float64frombits", "math.archTrunc", "math.Float32bits", "internal/abi.NoEscape", "internal/bytealg.MakeNoZero", "math.archFloor"], unfollowed := true, recurses := true, named := ["genlock/common.powers", "internal/strconv.uint64pow10", "math/bits.deBruijn32tab", "math/bits.deBruijn64tab"], apart := false, laid := [("math/bits.deBruijn32tab", laid_math_bits_deBruijn32tab), ("math/bits.deBruijn64tab", laid_math_bits_deBruijn64tab), ("internal/strconv.uint64pow10", laid_internal_strconv_uint64pow10), ("genlock/common.powers", laid_genlock_common_powers)], narrowed := true }
def PicturePartsUptoSaid : Prop := picturePartsUptoRow.holds Tryz.pinned (OpenSpec.upto picturePartsSpec)

/-- 'genlocklaw01.PictureJoins', WHERE WHAT IT READS IS OF BULK AT MOST 1048576: true; the input reads as it did. -/
def pictureJoinsUptoRow : OpenClaim := { program := "ytkjkjhheckfhbaagreatdoor", sum := "e0d08d640d3ecc2bbe0b950ba16b10b39f359ec498055db9d206c85b2f3cee56", func := "genlock/genlocklaw01.PictureJoins", spec := "pictureJoins", inPlace := ["math.Float64bits", "math.Float64frombits", "math.archTrunc", "math.Float32bits", "internal/abi.NoEscape", "internal/bytealg.MakeNoZero", "math.archFloor"], unfollowed := true, recurses := true, named := ["genlock/common.powers", "internal/strconv.uint64pow10", "math/bits.deBruijn32tab", "math/bits.deBruijn64tab"], apart := false, laid := [("math/bits.deBruijn32tab", laid_math_bits_deBruijn32tab), ("math/bits.deBruijn64tab", laid_math_bits_deBruijn64tab), ("internal/strconv.uint64pow10", laid_internal_strconv_uint64pow10), ("genlock/common.powers", laid_genlock_common_powers)], narrowed := true }
def PictureJoinsUptoSaid : Prop := pictureJoinsUptoRow.holds Tryz.pinned (OpenSpec.upto pictureJoinsSpec)

/-- 'genlocklaw01.PictureTurns', WHERE WHAT IT READS IS OF BULK AT MOST 1048576: true; the input reads as it did. -/
def pictureTurnsUptoRow : OpenClaim := { program := "ytkjkjhheckfhbaagreatdoor", sum := "e0d08d640d3ecc2bbe0b950ba16b10b39f359ec498055db9d206c85b2f3cee56", func := "genlock/genlocklaw01.PictureTurns", spec := "pictureTurns", inPlace := ["math.Float64bits", "math.Float64frombits", "math.archTrunc", "math.Float32bits", "internal/abi.NoEscape", "internal/bytealg.MakeNoZero", "math.archFloor"], unfollowed := true, recurses := true, named := ["genlock/common.powers", "internal/strconv.uint64pow10", "math/bits.deBruijn32tab", "math/bits.deBruijn64tab"], apart := false, laid := [("math/bits.deBruijn32tab", laid_math_bits_deBruijn32tab), ("math/bits.deBruijn64tab", laid_math_bits_deBruijn64tab), ("internal/strconv.uint64pow10", laid_internal_strconv_uint64pow10), ("genlock/common.powers", laid_genlock_common_powers)], narrowed := true }
def PictureTurnsUptoSaid : Prop := pictureTurnsUptoRow.holds Tryz.pinned (OpenSpec.upto pictureTurnsSpec)

/-- 'genlocklaw01.PictureSums', WHERE WHAT IT READS IS OF BULK AT MOST 1048576: true; the input reads as it did. -/
def pictureSumsUptoRow : OpenClaim := { program := "ytkjkjhheckfhbaagreatdoor", sum := "e0d08d640d3ecc2bbe0b950ba16b10b39f359ec498055db9d206c85b2f3cee56", func := "genlock/genlocklaw01.PictureSums", spec := "pictureSums", inPlace := ["math.Float64bits", "math.Float64frombits", "math.archTrunc", "math.Float32bits", "internal/abi.NoEscape", "internal/bytealg.MakeNoZero", "math.archFloor"], unfollowed := true, recurses := true, named := ["genlock/common.powers", "internal/strconv.uint64pow10", "math/bits.deBruijn32tab", "math/bits.deBruijn64tab"], apart := false, laid := [("math/bits.deBruijn32tab", laid_math_bits_deBruijn32tab), ("math/bits.deBruijn64tab", laid_math_bits_deBruijn64tab), ("internal/strconv.uint64pow10", laid_internal_strconv_uint64pow10), ("genlock/common.powers", laid_genlock_common_powers)], narrowed := true }
def PictureSumsUptoSaid : Prop := pictureSumsUptoRow.holds Tryz.pinned (OpenSpec.upto pictureSumsSpec)

/-- 'genlocklaw01.PicturePackets', WHERE WHAT IT READS IS OF BULK AT MOST 1048576: true; the input reads as it did. -/
def picturePacketsUptoRow : OpenClaim := { program := "ytkjkjhheckfhbaagreatdoor", sum := "e0d08d640d3ecc2bbe0b950ba16b10b39f359ec498055db9d206c85b2f3cee56", func := "genlock/genlocklaw01.PicturePackets", spec := "picturePackets", inPlace := ["math.Float64bits", "math.Float64frombits", "math.archTrunc", "math.Float32bits", "internal/abi.NoEscape", "internal/bytealg.MakeNoZero"], unfollowed := true, recurses := true, named := ["genlock/common.powers", "internal/strconv.uint64pow10", "math/bits.deBruijn32tab", "math/bits.deBruijn64tab"], apart := false, laid := [("math/bits.deBruijn32tab", laid_math_bits_deBruijn32tab), ("math/bits.deBruijn64tab", laid_math_bits_deBruijn64tab), ("internal/strconv.uint64pow10", laid_internal_strconv_uint64pow10), ("genlock/common.powers", laid_genlock_common_powers)], narrowed := true }
def PicturePacketsUptoSaid : Prop := picturePacketsUptoRow.holds Tryz.pinned (OpenSpec.upto picturePacketsSpec)

/-- 'genlocklaw01.PictureStreams', WHERE WHAT IT READS IS OF BULK AT MOST 1048576: true; the input reads as it did. -/
def pictureStreamsUptoRow : OpenClaim := { program := "ytkjkjhheckfhbaagreatdoor", sum := "e0d08d640d3ecc2bbe0b950ba16b10b39f359ec498055db9d206c85b2f3cee56", func := "genlock/genlocklaw01.PictureStreams", spec := "pictureStreams", inPlace := ["math.Float64bits", "math.Float64frombits", "math.archTrunc", "math.Float32bits", "internal/abi.NoEscape", "internal/bytealg.MakeNoZero"], unfollowed := true, recurses := true, named := ["genlock/common.powers", "internal/strconv.uint64pow10", "math/bits.deBruijn32tab", "math/bits.deBruijn64tab"], apart := false, laid := [("math/bits.deBruijn32tab", laid_math_bits_deBruijn32tab), ("math/bits.deBruijn64tab", laid_math_bits_deBruijn64tab), ("internal/strconv.uint64pow10", laid_internal_strconv_uint64pow10), ("genlock/common.powers", laid_genlock_common_powers)], narrowed := true }
def PictureStreamsUptoSaid : Prop := pictureStreamsUptoRow.holds Tryz.pinned (OpenSpec.upto pictureStreamsSpec)

/-- 'genlocklaw01.PictureTexts', WHERE WHAT IT READS IS OF BULK AT MOST 1048576: true; the input reads as it did. -/
def pictureTextsUptoRow : OpenClaim := { program := "ytkjkjhheckfhbaagreatdoor", sum := "e0d08d640d3ecc2bbe0b950ba16b10b39f359ec498055db9d206c85b2f3cee56", func := "genlock/genlocklaw01.PictureTexts", spec := "pictureTexts", inPlace := ["math.Float64bits", "math.Float64frombits", "math.archTrunc", "math.Float32bits", "internal/abi.NoEscape", "internal/bytealg.MakeNoZero", "internal/bytealg.CountString", "internal/bytealg.IndexByteString", "internal/bytealg.IndexString", "math.Float32frombits", "math.archFloor"], unfollowed := true, recurses := true, named := ["genlock/common.powers", "internal/strconv.uint64pow10", "math/bits.deBruijn32tab", "math/bits.deBruijn64tab", "unicode/utf8.first", "unicode/utf8.acceptRanges", "internal/bytealg.MaxLen"], apart := false, laid := [("math/bits.deBruijn32tab", laid_math_bits_deBruijn32tab), ("math/bits.deBruijn64tab", laid_math_bits_deBruijn64tab), ("internal/strconv.uint64pow10", laid_internal_strconv_uint64pow10), ("unicode/utf8.acceptRanges", laid_unicode_utf8_acceptRanges), ("genlock/common.powers", laid_genlock_common_powers), ("unicode/utf8.first", laid_unicode_utf8_first)], narrowed := true }
def PictureTextsUptoSaid : Prop := pictureTextsUptoRow.holds Tryz.pinned (OpenSpec.upto pictureTextsSpec)

/-- 'genlocklaw01.PictureTiles', WHERE WHAT IT READS IS OF BULK AT MOST 1048576: true; the input reads as it did. -/
def pictureTilesUptoRow : OpenClaim := { program := "ytkjkjhheckfhbaagreatdoor", sum := "e0d08d640d3ecc2bbe0b950ba16b10b39f359ec498055db9d206c85b2f3cee56", func := "genlock/genlocklaw01.PictureTiles", spec := "pictureTiles", inPlace := ["math.Float64bits", "math.Float64frombits", "math.archFloor", "math.archTrunc", "math.Float32bits", "internal/abi.NoEscape", "internal/bytealg.MakeNoZero"], unfollowed := true, recurses := true, named := ["genlock/common.powers", "internal/strconv.uint64pow10", "math/bits.deBruijn32tab", "math/bits.deBruijn64tab"], apart := false, laid := [("math/bits.deBruijn32tab", laid_math_bits_deBruijn32tab), ("math/bits.deBruijn64tab", laid_math_bits_deBruijn64tab), ("internal/strconv.uint64pow10", laid_internal_strconv_uint64pow10), ("genlock/common.powers", laid_genlock_common_powers)], narrowed := true }
def PictureTilesUptoSaid : Prop := pictureTilesUptoRow.holds Tryz.pinned (OpenSpec.upto pictureTilesSpec)

/-- 'genlocklaw01.PictureRound', WHERE WHAT IT READS IS OF BULK AT MOST 1048576: true; the input reads as it did. -/
def pictureRoundUptoRow : OpenClaim := { program := "ytkjkjhheckfhbaagreatdoor", sum := "e0d08d640d3ecc2bbe0b950ba16b10b39f359ec498055db9d206c85b2f3cee56", func := "genlock/genlocklaw01.PictureRound", spec := "pictureRound", inPlace := ["math.Float64bits", "math.Float64frombits", "math.archFloor", "math.archTrunc", "math.Float32bits", "internal/abi.NoEscape", "internal/bytealg.MakeNoZero"], unfollowed := true, recurses := true, named := ["genlock/common.powers", "internal/strconv.uint64pow10", "math/bits.deBruijn32tab", "math/bits.deBruijn64tab"], apart := false, laid := [("math/bits.deBruijn32tab", laid_math_bits_deBruijn32tab), ("math/bits.deBruijn64tab", laid_math_bits_deBruijn64tab), ("internal/strconv.uint64pow10", laid_internal_strconv_uint64pow10), ("genlock/common.powers", laid_genlock_common_powers)], narrowed := true }
def PictureRoundUptoSaid : Prop := pictureRoundUptoRow.holds Tryz.pinned (OpenSpec.upto pictureRoundSpec)

/-- 'genlocklaw01.PictureLinear', WHERE WHAT IT READS IS OF BULK AT MOST 1048576: true; the input reads as it did. -/
def pictureLinearUptoRow : OpenClaim := { program := "ytkjkjhheckfhbaagreatdoor", sum := "e0d08d640d3ecc2bbe0b950ba16b10b39f359ec498055db9d206c85b2f3cee56", func := "genlock/genlocklaw01.PictureLinear", spec := "pictureLinear", inPlace := ["math.Float64bits", "math.Float64frombits", "math.archFloor", "math.archTrunc", "math.Float32bits", "internal/abi.NoEscape", "internal/bytealg.MakeNoZero"], unfollowed := true, recurses := true, named := ["genlock/common.powers", "internal/strconv.uint64pow10", "math/bits.deBruijn32tab", "math/bits.deBruijn64tab"], apart := false, laid := [("math/bits.deBruijn32tab", laid_math_bits_deBruijn32tab), ("math/bits.deBruijn64tab", laid_math_bits_deBruijn64tab), ("internal/strconv.uint64pow10", laid_internal_strconv_uint64pow10), ("genlock/common.powers", laid_genlock_common_powers)], narrowed := true }
def PictureLinearUptoSaid : Prop := pictureLinearUptoRow.holds Tryz.pinned (OpenSpec.upto pictureLinearSpec)

/-- 'genlocklaw01.PictureFound', WHERE WHAT IT READS IS OF BULK AT MOST 1048576: true; the input reads as it did. -/
def pictureFoundUptoRow : OpenClaim := { program := "ytkjkjhheckfhbaagreatdoor", sum := "e0d08d640d3ecc2bbe0b950ba16b10b39f359ec498055db9d206c85b2f3cee56", func := "genlock/genlocklaw01.PictureFound", spec := "pictureFound", inPlace := ["math.Float64bits", "math.Float64frombits", "math.archTrunc", "math.Float32bits", "internal/abi.NoEscape", "internal/bytealg.MakeNoZero"], unfollowed := true, recurses := true, named := ["genlock/common.powers", "internal/strconv.uint64pow10", "math/bits.deBruijn32tab", "math/bits.deBruijn64tab"], apart := false, laid := [("math/bits.deBruijn32tab", laid_math_bits_deBruijn32tab), ("math/bits.deBruijn64tab", laid_math_bits_deBruijn64tab), ("internal/strconv.uint64pow10", laid_internal_strconv_uint64pow10), ("genlock/common.powers", laid_genlock_common_powers)], narrowed := true }
def PictureFoundUptoSaid : Prop := pictureFoundUptoRow.holds Tryz.pinned (OpenSpec.upto pictureFoundSpec)

/-- 'genlocklaw01.PictureBack', WHERE WHAT IT READS IS OF BULK AT MOST 1048576: true; the input reads as it did. -/
def pictureBackUptoRow : OpenClaim := { program := "ytkjkjhheckfhbaagreatdoor", sum := "e0d08d640d3ecc2bbe0b950ba16b10b39f359ec498055db9d206c85b2f3cee56", func := "genlock/genlocklaw01.PictureBack", spec := "pictureBack", inPlace := ["math.Float64bits", "math.Float64frombits", "math.archFloor", "math.archTrunc", "math.Float32bits", "internal/abi.NoEscape", "internal/bytealg.MakeNoZero", "internal/bytealg.CountString", "internal/bytealg.IndexByteString", "internal/bytealg.IndexString", "math.Float32frombits"], unfollowed := true, recurses := true, named := ["genlock/common.powers", "internal/strconv.uint64pow10", "math/bits.deBruijn32tab", "math/bits.deBruijn64tab", "unicode/utf8.first", "unicode/utf8.acceptRanges", "internal/bytealg.MaxLen"], apart := false, laid := [("math/bits.deBruijn32tab", laid_math_bits_deBruijn32tab), ("math/bits.deBruijn64tab", laid_math_bits_deBruijn64tab), ("internal/strconv.uint64pow10", laid_internal_strconv_uint64pow10), ("unicode/utf8.acceptRanges", laid_unicode_utf8_acceptRanges), ("genlock/common.powers", laid_genlock_common_powers), ("unicode/utf8.first", laid_unicode_utf8_first)], narrowed := true }
def PictureBackUptoSaid : Prop := pictureBackUptoRow.holds Tryz.pinned (OpenSpec.upto pictureBackSpec)

end Rows
end Go.Proofs.YtkjkjhheckfhbaaGreatDoor
