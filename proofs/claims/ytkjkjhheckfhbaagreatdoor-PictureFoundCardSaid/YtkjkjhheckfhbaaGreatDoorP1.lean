/- Parts of a proof: Contracts of the library, off the shelf, at this translation. A line of words added to a text. A list mapped to strings, and cut into rows: the words of a picture. The text of a picture. The document's examples, as the law's 'awake' computes them. -/
import Derived.Shelf.Strings.Builder1
import Derived.Shelf.Strings.Builder2
import Derived.Shelf.Strings.OnBuilder
import Derived.Shelf.Strings.BuilderK
import Derived.Shelf.Strconv.Itoa0
import Derived.Shelf.Strconv.Itoa1
import Derived.Shelf.LaysM
import Derived.Shelf.Strconv.Itoa2
import Derived.Shelf.Strconv.Itoa3
import Derived.Lib.SmallJoins
import Derived.Lib.AppendIntMem
import Derived.Test.YtkjkjhheckfhbaaGreatDoorProg
import Derived.Test.YtkjkjhheckfhbaaGreatDoorB
import Derived.Test.YtkjkjhheckfhbaaGreatDoorAk
import Derived.Test.YtkjkjhheckfhbaaGreatDoorPG
import Derived.Test.YtkjkjhheckfhbaaGreatDoorI
import Derived.Test.YtkjkjhheckfhbaaGreatDoorAl
import Derived.StillTailTactics
import Derived.Lib.ItoaLen
import Derived.Maps.OwnIn
import Derived.Test.YtkjkjhheckfhbaaGreatDoorP0
import Derived.Test.YtkjkjhheckfhbaaGreatDoorPI
import Derived.Test.YtkjkjhheckfhbaaGreatDoorPM
import Derived.Test.YtkjkjhheckfhbaaGreatDoorQ
import Derived.Test.YtkjkjhheckfhbaaGreatDoorPL
import Derived.Test.YtkjkjhheckfhbaaGreatDoorY
import Derived.Test.YtkjkjhheckfhbaaGreatDoorZ
import Derived.Test.YtkjkjhheckfhbaaGreatDoorPE
import Derived.Test.YtkjkjhheckfhbaaGreatDoorPJ
import Derived.Test.YtkjkjhheckfhbaaGreatDoorAj
import Derived.Test.YtkjkjhheckfhbaaGreatDoorAm
import Derived.Test.YtkjkjhheckfhbaaGreatDoorAp
namespace Go.Proofs.YtkjkjhheckfhbaaGreatDoor
open Go.Shelf Go.Proofs Go.RowKit Go.Sort
set_option linter.unusedVariables false
def sh_lays169_ren : Go.Shelf.Ren := ⟨fun | 169 => 140 | n => n, fun | 70 => 191 | 9 => 9 | 0 => 0 | 72 => 193 | 37 => 106 | 127 => 242 | 3 => 3 | 5 => 5 | n => n, fun | n => n⟩
theorem sh_lays169 : Go.Proofs.Lays.n169 Tryz.prog sh_lays169_ren := {
  mixed := by kernel_rfl
  f169 := Tryz.func140.trans (congrArg some (by kernel_rfl))
  t0 := Tryz.underlying0
  a0 := Tryz.isAgg0
  z0 := Tryz.sizeOf0
  v0 := Tryz.zeroValue0
  t3 := Tryz.underlying3
  a3 := Tryz.isAgg3
  z3 := Tryz.sizeOf3
  v3 := Tryz.zeroValue3
  t9 := Tryz.underlying9
  a9 := Tryz.isAgg9
  z9 := Tryz.sizeOf9
  v9 := Tryz.zeroValue9
  t37 := Tryz.underlying106
  a37 := Tryz.isAgg106
  z37 := Tryz.sizeOf106
  v37 := Tryz.zeroValue106
  t70 := Tryz.underlying191
  a70 := Tryz.isAgg191
  z70 := Tryz.sizeOf191
  v70 := Tryz.zeroValue191
  t72 := Tryz.underlying193
  a72 := Tryz.isAgg193
  z72 := Tryz.sizeOf193
  v72 := Tryz.zeroValue193
  t127 := Tryz.underlying242
  a127 := Tryz.isAgg242
  z127 := Tryz.sizeOf242
  v127 := Tryz.zeroValue242 }
theorem sh_Builder_Extra_169 : Builder.Extra Tryz.prog sh_lays169_ren := {
  sizeBuilder := by kernel_rfl
  liesBuilder := by kernel_rfl
  t5 := Tryz.underlying5
  a5 := Tryz.isAgg5
  z5 := Tryz.sizeOf5
  v5 := Tryz.zeroValue5
  infoByte := by kernel_rfl
  cellsByte := by kernel_rfl
  sizeByte := by kernel_rfl
  neB5 := by decide }
def sh_laysM171_ren : Go.Shelf.Ren := ⟨fun | 171 => 137 | 243 => 176 | 246 => 201 | 283 => 215 | 284 => 216 | 285 => 217 | 286 => 218 | 129 => 224 | 317 => 223 | 318 => 225 | 319 => 226 | 320 => 227 | 337 => 233 | 338 => 234 | n => n, fun | 3 => 3 | 9 => 9 | 2 => 2 | 4 => 4 | 171 => 284 | 0 => 0 | 53 => 260 | 37 => 106 | 5 => 5 | 173 => 287 | 212 => 292 | 51 => 208 | 20 => 20 | 213 => 293 | 46 => 182 | 232 => 302 | 233 => 303 | n => n, fun | 17 => 2 | 18 => 4 | 19 => 5 | n => n⟩
theorem sh_laysM171 : Go.Proofs.LaysM.n171 Tryz.prog sh_laysM171_ren := {
  mixed := by kernel_rfl
  f129 := Tryz.func224.trans (congrArg some (by kernel_rfl))
  f171 := Tryz.func137.trans (congrArg some (by kernel_rfl))
  f243 := Tryz.func176.trans (congrArg some (by kernel_rfl))
  f246 := Tryz.func201.trans (congrArg some (by kernel_rfl))
  f283 := Tryz.func215.trans (congrArg some (by kernel_rfl))
  f284 := Tryz.func216.trans (congrArg some (by kernel_rfl))
  f285 := Tryz.func217.trans (congrArg some (by kernel_rfl))
  f286 := Tryz.func218.trans (congrArg some (by kernel_rfl))
  f317 := Tryz.func223.trans (congrArg some (by kernel_rfl))
  f318 := Tryz.func225.trans (congrArg some (by kernel_rfl))
  f319 := Tryz.func226.trans (congrArg some (by kernel_rfl))
  f320 := Tryz.func227.trans (congrArg some (by kernel_rfl))
  f337 := Tryz.func233.trans (congrArg some (by kernel_rfl))
  f338 := Tryz.func234.trans (congrArg some (by kernel_rfl))
  t0 := Tryz.underlying0
  a0 := Tryz.isAgg0
  z0 := Tryz.sizeOf0
  v0 := Tryz.zeroValue0
  t2 := Tryz.underlying2
  a2 := Tryz.isAgg2
  z2 := Tryz.sizeOf2
  v2 := Tryz.zeroValue2
  t3 := Tryz.underlying3
  a3 := Tryz.isAgg3
  z3 := Tryz.sizeOf3
  v3 := Tryz.zeroValue3
  t4 := Tryz.underlying4
  a4 := Tryz.isAgg4
  z4 := Tryz.sizeOf4
  v4 := Tryz.zeroValue4
  t5 := Tryz.underlying5
  a5 := Tryz.isAgg5
  z5 := Tryz.sizeOf5
  v5 := Tryz.zeroValue5
  t9 := Tryz.underlying9
  a9 := Tryz.isAgg9
  z9 := Tryz.sizeOf9
  v9 := Tryz.zeroValue9
  t20 := Tryz.underlying20
  a20 := Tryz.isAgg20
  z20 := Tryz.sizeOf20
  v20 := Tryz.zeroValue20
  t37 := Tryz.underlying106
  a37 := Tryz.isAgg106
  z37 := Tryz.sizeOf106
  v37 := Tryz.zeroValue106
  t46 := Tryz.underlying182
  a46 := Tryz.isAgg182
  z46 := Tryz.sizeOf182
  v46 := Tryz.zeroValue182
  t51 := Tryz.underlying208
  a51 := Tryz.isAgg208
  z51 := Tryz.sizeOf208
  v51 := Tryz.zeroValue208
  t53 := Tryz.underlying260
  a53 := Tryz.isAgg260
  z53 := Tryz.sizeOf260
  v53 := Tryz.zeroValue260
  t171 := Tryz.underlying284
  a171 := Tryz.isAgg284
  z171 := Tryz.sizeOf284
  v171 := Tryz.zeroValue284
  t173 := Tryz.underlying287
  a173 := Tryz.isAgg287
  z173 := Tryz.sizeOf287
  v173 := Tryz.zeroValue287
  t212 := Tryz.underlying292
  a212 := Tryz.isAgg292
  z212 := Tryz.sizeOf292
  v212 := Tryz.zeroValue292
  t213 := Tryz.underlying293
  a213 := Tryz.isAgg293
  z213 := Tryz.sizeOf293
  t232 := Tryz.underlying302
  a232 := Tryz.isAgg302
  z232 := Tryz.sizeOf302
  v232 := Tryz.zeroValue302
  t233 := Tryz.underlying303
  a233 := Tryz.isAgg303
  z233 := Tryz.sizeOf303
  v233 := Tryz.zeroValue303
  g17 := by kernel_rfl
  g18 := by kernel_rfl
  g19 := by kernel_rfl
  i0 := by kernel_rfl
  i2 := by kernel_rfl
  i3 := by kernel_rfl
  i4 := by kernel_rfl
  i5 := by kernel_rfl
  i9 := by kernel_rfl
  i20 := by kernel_rfl
  i37 := by kernel_rfl
  i46 := by kernel_rfl
  i51 := by kernel_rfl
  i53 := by kernel_rfl
  i171 := by kernel_rfl
  i173 := by kernel_rfl
  i212 := by kernel_rfl
  i232 := by kernel_rfl
  i233 := by kernel_rfl
  m17 := by kernel_rfl
  m18 := by kernel_rfl
  m19 := by kernel_rfl }
def sh_lays156_ren : Go.Shelf.Ren := ⟨fun | 167 => 175 | 156 => 174 | 165 => 200 | 166 => 173 | 169 => 140 | 240 => 199 | 241 => 214 | 276 => 213 | 277 => 222 | n => n, fun | 31 => 148 | 9 => 9 | 3 => 3 | 4 => 4 | 0 => 0 | 20 => 20 | 72 => 193 | 76 => 237 | 70 => 191 | 37 => 106 | 75 => 236 | 127 => 242 | 164 => 282 | 5 => 5 | 80 => 200 | n => n, fun | n => n⟩
theorem sh_lays156 : Go.Proofs.Lays.n156 Tryz.prog sh_lays156_ren := {
  mixed := by kernel_rfl
  f156 := Tryz.func174.trans (congrArg some (by kernel_rfl))
  f165 := Tryz.func200.trans (congrArg some (by kernel_rfl))
  f166 := Tryz.func173.trans (congrArg some (by kernel_rfl))
  f169 := Tryz.func140.trans (congrArg some (by kernel_rfl))
  f240 := Tryz.func199.trans (congrArg some (by kernel_rfl))
  f241 := Tryz.func214.trans (congrArg some (by kernel_rfl))
  f276 := Tryz.func213.trans (congrArg some (by kernel_rfl))
  f277 := Tryz.func222.trans (congrArg some (by kernel_rfl))
  t0 := Tryz.underlying0
  a0 := Tryz.isAgg0
  z0 := Tryz.sizeOf0
  v0 := Tryz.zeroValue0
  t3 := Tryz.underlying3
  a3 := Tryz.isAgg3
  z3 := Tryz.sizeOf3
  v3 := Tryz.zeroValue3
  t4 := Tryz.underlying4
  a4 := Tryz.isAgg4
  z4 := Tryz.sizeOf4
  v4 := Tryz.zeroValue4
  t9 := Tryz.underlying9
  a9 := Tryz.isAgg9
  z9 := Tryz.sizeOf9
  v9 := Tryz.zeroValue9
  t20 := Tryz.underlying20
  a20 := Tryz.isAgg20
  z20 := Tryz.sizeOf20
  v20 := Tryz.zeroValue20
  t31 := Tryz.underlying148
  a31 := Tryz.isAgg148
  z31 := Tryz.sizeOf148
  v31 := Tryz.zeroValue148
  t37 := Tryz.underlying106
  a37 := Tryz.isAgg106
  z37 := Tryz.sizeOf106
  v37 := Tryz.zeroValue106
  t70 := Tryz.underlying191
  a70 := Tryz.isAgg191
  z70 := Tryz.sizeOf191
  v70 := Tryz.zeroValue191
  t72 := Tryz.underlying193
  a72 := Tryz.isAgg193
  z72 := Tryz.sizeOf193
  v72 := Tryz.zeroValue193
  t75 := Tryz.underlying236
  a75 := Tryz.isAgg236
  z75 := Tryz.sizeOf236
  v75 := Tryz.zeroValue236
  t76 := Tryz.underlying237
  a76 := Tryz.isAgg237
  z76 := Tryz.sizeOf237
  v76 := Tryz.zeroValue237
  t127 := Tryz.underlying242
  a127 := Tryz.isAgg242
  z127 := Tryz.sizeOf242
  v127 := Tryz.zeroValue242
  t164 := Tryz.underlying282
  a164 := Tryz.isAgg282
  z164 := Tryz.sizeOf282
  v164 := Tryz.zeroValue282 }
theorem sh_Builder_Extra_156 : Builder.Extra Tryz.prog sh_lays156_ren := {
  sizeBuilder := by kernel_rfl
  liesBuilder := by kernel_rfl
  t5 := Tryz.underlying5
  a5 := Tryz.isAgg5
  z5 := Tryz.sizeOf5
  v5 := Tryz.zeroValue5
  infoByte := by kernel_rfl
  cellsByte := by kernel_rfl
  sizeByte := by kernel_rfl
  neB5 := by decide }
theorem sh_lays166 : Go.Proofs.Lays.n166 Tryz.prog sh_lays156_ren := {
  mixed := by kernel_rfl
  f166 := Tryz.func173.trans (congrArg some (by kernel_rfl))
  f240 := Tryz.func199.trans (congrArg some (by kernel_rfl))
  f276 := Tryz.func213.trans (congrArg some (by kernel_rfl))
  t0 := Tryz.underlying0
  a0 := Tryz.isAgg0
  z0 := Tryz.sizeOf0
  v0 := Tryz.zeroValue0
  t3 := Tryz.underlying3
  a3 := Tryz.isAgg3
  z3 := Tryz.sizeOf3
  v3 := Tryz.zeroValue3
  t4 := Tryz.underlying4
  a4 := Tryz.isAgg4
  z4 := Tryz.sizeOf4
  v4 := Tryz.zeroValue4
  t9 := Tryz.underlying9
  a9 := Tryz.isAgg9
  z9 := Tryz.sizeOf9
  v9 := Tryz.zeroValue9
  t20 := Tryz.underlying20
  a20 := Tryz.isAgg20
  z20 := Tryz.sizeOf20
  v20 := Tryz.zeroValue20
  t37 := Tryz.underlying106
  a37 := Tryz.isAgg106
  z37 := Tryz.sizeOf106
  v37 := Tryz.zeroValue106
  t70 := Tryz.underlying191
  a70 := Tryz.isAgg191
  z70 := Tryz.sizeOf191
  v70 := Tryz.zeroValue191
  t72 := Tryz.underlying193
  a72 := Tryz.isAgg193
  z72 := Tryz.sizeOf193
  v72 := Tryz.zeroValue193
  t75 := Tryz.underlying236
  a75 := Tryz.isAgg236
  z75 := Tryz.sizeOf236
  v75 := Tryz.zeroValue236
  t164 := Tryz.underlying282
  a164 := Tryz.isAgg282
  z164 := Tryz.sizeOf282
  v164 := Tryz.zeroValue282 }
theorem sh_lays167 : Go.Proofs.Lays.n167 Tryz.prog sh_lays156_ren := {
  mixed := by kernel_rfl
  f167 := Tryz.func175.trans (congrArg some (by kernel_rfl))
  f240 := Tryz.func199.trans (congrArg some (by kernel_rfl))
  f276 := Tryz.func213.trans (congrArg some (by kernel_rfl))
  t0 := Tryz.underlying0
  a0 := Tryz.isAgg0
  z0 := Tryz.sizeOf0
  v0 := Tryz.zeroValue0
  t4 := Tryz.underlying4
  a4 := Tryz.isAgg4
  z4 := Tryz.sizeOf4
  v4 := Tryz.zeroValue4
  t5 := Tryz.underlying5
  a5 := Tryz.isAgg5
  z5 := Tryz.sizeOf5
  v5 := Tryz.zeroValue5
  t9 := Tryz.underlying9
  a9 := Tryz.isAgg9
  z9 := Tryz.sizeOf9
  v9 := Tryz.zeroValue9
  t20 := Tryz.underlying20
  a20 := Tryz.isAgg20
  z20 := Tryz.sizeOf20
  v20 := Tryz.zeroValue20
  t37 := Tryz.underlying106
  a37 := Tryz.isAgg106
  z37 := Tryz.sizeOf106
  v37 := Tryz.zeroValue106
  t70 := Tryz.underlying191
  a70 := Tryz.isAgg191
  z70 := Tryz.sizeOf191
  v70 := Tryz.zeroValue191
  t72 := Tryz.underlying193
  a72 := Tryz.isAgg193
  z72 := Tryz.sizeOf193
  v72 := Tryz.zeroValue193
  t75 := Tryz.underlying236
  a75 := Tryz.isAgg236
  z75 := Tryz.sizeOf236
  v75 := Tryz.zeroValue236
  t164 := Tryz.underlying282
  a164 := Tryz.isAgg282
  z164 := Tryz.sizeOf282
  v164 := Tryz.zeroValue282 }
theorem itoa_any (n : Int) (h0 : -9223372036854775808 ≤ n) (h1 : n ≤ 9223372036854775807) (w : World) (htab : Lib.TabIs Tryz.prog w "internal/strconv.uint64pow10" .u64 Lib.pow10Tab) :
    Calls Tryz.prog 137 #[.int .i64 n] w fun e w' => e = .returned (.string ⟨(Lib.itoa n).toArray⟩) ∧ Below w.heap.size w w' := by
  refine (Any.strconv_Itoa sh_laysM171 n h0 h1 w htab).mono ?_
  rintro e w' ⟨rfl, k, os, rfl⟩
  exact ⟨rfl, Lib.below_grow _ w (Nat.le_refl _) k os⟩
theorem join_any (bk o c : Nat) (xs : List ByteArray) (sep : ByteArray) (w : World) (hc : ∀ (j : Nat) (x : ByteArray), xs[j]? = some x → w.cell? ⟨bk, o + j, none⟩ = some (.string x)) (hb : bk < w.heap.size) (hl : xs.length ≤ 140737488355328) (hlc : xs.length ≤ c) (hj : (Lib.join (xs.map fun x => x.data.toList) sep.data.toList).length ≤ 140737488355328) :
    Calls Tryz.prog 174 #[.slice (some ⟨bk, o, none⟩) xs.length c, .string sep] w fun e w' => e = .returned (.string ⟨(Lib.join (xs.map fun x => x.data.toList) sep.data.toList).toArray⟩) ∧ Below w.heap.size w w' :=
  Any.strings_Join sh_lays156 sh_Builder_Extra_156 bk o c xs sep w hc hb hl hlc hj
theorem writeString_any (B b : Nat) (bs : List Value) (s : ByteArray) (w : World) (h : Lib.IsBuilderF 193 5 B b bs w) (hlen : bs.length + s.size ≤ 140737488355328) (hBw : B ≤ w.heap.size) :
    Calls Tryz.prog 173 #[.pointer (some ⟨b, 0, none⟩), .string s] w fun e w' => e = .returned (.tuple #[.int .i64 s.size, .nilIface]) ∧ (Lib.IsBuilderF 193 5 B b (bs ++ Lib.strCells s) w' ∧ Below B w w' ∧ Lib.OthersKept 5 (some b) w w') :=
  (Any.Builder_WriteString_k sh_lays166 sh_Builder_Extra_156 B b bs s w h hlen hBw).mono fun _ _ ⟨he, hb, hw⟩ => ⟨he, .inr hb, hw⟩
theorem writeByte_any (B b : Nat) (bs : List Value) (c : Int) (w : World) (h : Lib.IsBuilderF 193 5 B b bs w) (hlen : bs.length + 1 ≤ 140737488355328) (hBw : B ≤ w.heap.size) :
    Calls Tryz.prog 175 #[.pointer (some ⟨b, 0, none⟩), .int .u8 c] w fun e w' => e = .returned .nilIface ∧ (Lib.IsBuilderF 193 5 B b (bs ++ [.int .u8 c]) w' ∧ Below B w w' ∧ Lib.OthersKept 5 (some b) w w') :=
  (Any.Builder_WriteByte_k sh_lays167 sh_Builder_Extra_156 B b bs c w h hlen hBw).mono fun _ _ ⟨he, hb, hw⟩ => ⟨he, .inr hb, hw⟩
theorem builderString_any (B b : Nat) (l : List UInt8) (w : World) (h : Lib.IsBuilderF 193 5 B b (Lib.byteCells l) w) (hBw : B ≤ w.heap.size) :
    Calls Tryz.prog 140 #[.pointer (some ⟨b, 0, none⟩)] w fun e w' => e = .returned (.string ⟨l.toArray⟩) ∧ (Lib.IsBuilderF 193 5 B b (Lib.byteCells l) w' ∧ Below B w w' ∧ Lib.OthersKept 5 (some b) w w') :=
  Any.Builder_String_any_k sh_lays169 sh_Builder_Extra_169 B b l w h hBw
theorem builderF_below {T e : TypeId} {B b : Nat} {bs : List Value} {w w' : World} (h : Lib.IsBuilderF T e B b bs w) (hb : Below w.heap.size w w') : Lib.IsBuilderF T e B b bs w' := by
  have key : ∀ p, Lib.BuilderAtF T e B b p bs w → Lib.BuilderAtF T e B b p bs w' := fun p ⟨hB, v, hc, ⟨h1, h2⟩, hne⟩ => by
    refine ⟨hB, v, (hb.block b (Array.getElem?_eq_some_iff.1 hc).1).trans hc, ⟨h1, ?_⟩, hne⟩
    rcases h2 with h2 | ⟨g, cap, cur, fz, hv, hg, hcu, h3⟩
    · exact .inl h2
    · exact .inr ⟨g, cap, cur, fz, hv, hg, (hb.block g (Array.getElem?_eq_some_iff.1 hcu).1).trans hcu, h3⟩
  exact h.elim (fun x => .inl (key _ x)) (fun x => .inr (key _ x))
theorem builderF_new (w : World) : Lib.IsBuilderF 193 5 w.heap.size w.heap.size [] (w.alloc (.cells #[.pointer none, .slice none 0 0] 193)) :=
  .inl ⟨Nat.le_refl _, .slice none 0 0, heap_alloc_new w _, World.ownsRowF_nil _ _ _ _, by simp [Value.ownBlock]⟩
theorem others_below {e : TypeId} {b : Option Nat} {w w' : World} (hb : Below w.heap.size w w') : Lib.OthersKept e b w w' := fun k o hk _ _ => (hb.block k (Array.getElem?_eq_some_iff.1 hk).1).trans hk

end Go.Proofs.YtkjkjhheckfhbaaGreatDoor
namespace Go.Proofs.YtkjkjhheckfhbaaGreatDoor
open Go.RowKit
set_option linter.unusedVariables false
def lineOf (xs : List ByteArray) : List UInt8 := Lib.join (xs.map fun x => x.data.toList) [32] ++ [10]
set_option maxRecDepth 100000 in
theorem printLine_any (B b : Nat) (l : List UInt8) (bk o c n : Nat) (xs : List ByteArray) (hn : xs.length = n) (w : World) (h : Lib.IsBuilderF 193 5 B b (Lib.byteCells l) w) (hBw : B ≤ w.heap.size)
    (hc : ∀ (j : Nat) (x : ByteArray), xs[j]? = some x → w.cell? ⟨bk, o + j, none⟩ = some (.string x)) (hb : bk < w.heap.size) (hl : xs.length ≤ 140737488355328) (hlc : xs.length ≤ c) (hj : l.length + (lineOf xs).length ≤ 140737488355328) :
    Calls Tryz.prog 136 #[.pointer (some ⟨b, 0, none⟩), .slice (some ⟨bk, o, none⟩) n c] w fun e w' => e = .returned (.tuple #[]) ∧ Lib.IsBuilderF 193 5 B b (Lib.byteCells (l ++ lineOf xs)) w' ∧ Below B w w' ∧ Lib.OthersKept 5 (some b) w w' := by
  subst hn
  unfold lineOf at hj ⊢
  have HC := Lib.hid hc; have H := Lib.hid h
  clear hc h
  go_enter Tryz.func136, Tryz.ntmps136
  go_wp2_with fail
  refine (join_any bk o c xs ⟨#[32]⟩ w HC.out hb hl hlc (by simp at hj ⊢; omega)).mono ?_
  rintro e w1 ⟨rfl, hb1⟩
  obtain ⟨J, hJ⟩ : ∃ J, Lib.join (xs.map fun x => x.data.toList) [32] = J := ⟨_, rfl⟩
  rw [show (({ data := #[32] } : ByteArray).data.toList) = [32] from rfl, hJ]
  rw [hJ] at hj
  have HJ := Lib.hid hJ
  clear hJ
  have H1 := Lib.hid (builderF_below H.out hb1)
  have HB1 := Lib.hid (hb1.mono hBw)
  have HO1 := Lib.hid (others_below (e := 5) (b := some b) hb1)
  have hs1 := hb1.size
  clear hb1
  have hsz : ({ data := J.toArray } : ByteArray).size = J.length := by simp [ByteArray.size]
  go_wp2_with fail
  refine (writeString_any B b (Lib.byteCells l) ⟨J.toArray⟩ w1 H1.out (by rw [hsz]; simp [Lib.byteCells] at hj ⊢; omega) (by omega)).mono ?_
  rintro e w2 ⟨rfl, h2, hb2, ho2⟩
  have e2 : Lib.byteCells l ++ Lib.strCells ⟨J.toArray⟩ = Lib.byteCells (l ++ J) := by rw [Lib.strCells_toArray]; simp [Lib.byteCells]
  rw [e2] at h2
  have H2 := Lib.hid h2
  have HB2 := Lib.hid (HB1.out.trans hb2)
  have HO2 := Lib.hid (HO1.out.trans ho2)
  have hs2 := hb2.size
  clear h2 hb2 ho2 e2
  go_wp2_with fail
  refine (writeByte_any B b (Lib.byteCells (l ++ J)) 10 w2 H2.out (by simp [Lib.byteCells] at hj ⊢; omega) (by omega)).mono ?_
  rintro e w3 ⟨rfl, h3, hb3, ho3⟩
  have e3 : Lib.byteCells (l ++ J) ++ [.int .u8 10] = Lib.byteCells (l ++ (J ++ [10])) := by simp [Lib.byteCells]
  rw [e3] at h3
  have H3 := Lib.hid h3
  have HB3 := Lib.hid (HB2.out.trans hb3)
  have HO3 := Lib.hid (HO2.out.trans ho3)
  clear h3 hb3 ho3 e3
  go_wp2
  go_end0
  exact ⟨rfl, by rw [HJ.out]; exact H3.out, HB3.out, HO3.out⟩

end Go.Proofs.YtkjkjhheckfhbaaGreatDoor
namespace Go.Proofs.YtkjkjhheckfhbaaGreatDoor
open Go.RowKit
set_option linter.unusedVariables false
open Go.Shelf
attribute [local go_sem] Oper.semAt_some
set_option maxRecDepth 100000 in
theorem mapIS_at (A : Option Addr) (c : Nat) (l : List (Int)) (F : FuncId) (g : Int → ByteArray) (w : World) (hl : l.length ≤ 4096) (hr : Rd w A (l.map (Value.int .i64))) (hcf : Enters Tryz.prog F)
    (hF : ∀ x ∈ l, ∀ wr, Below w.heap.size w wr → Calls Tryz.prog F #[(Value.int .i64) x] wr fun e w' => e = .returned (Value.string (g x)) ∧ Below wr.heap.size wr w') :
    Calls Tryz.prog 138 #[.slice A l.length c, .func (.func F) #[] #[]] w fun e w' => e = .returned (.slice (some ⟨w.heap.size, 0, none⟩) l.length l.length) ∧ (∃ C : Array Value, Blk w' w.heap.size 9 C ∧ C.size = l.length ∧ ∀ (j : Nat) (x : Int), l[j]? = some x → C[j]? = some (Value.string (g x))) ∧ Below w.heap.size w w' := by
  have HF := Lib.hid hF; clear hF
  have HR := Lib.hid hr; clear hr
  unfold Enters at hcf
  have hmk := fun W => Go.run_make_row' (P := Tryz.prog) 148 9 (.string ByteArray.empty) 16 Tryz.underlying148 info_mapIS rfl .i64 .i64 l.length (by omega) (by omega) W
  go_enter Tryz.func138, Tryz.ntmps138
  go_wp2
  go_loopw [13] (fun i wr => ∃ k : Nat, k ≤ l.length ∧ i = .int .i64 k ∧ Blk wr w.heap.size 9 (fillN (fun j => Value.string (g (l.getD j 0))) (.string ByteArray.empty) l.length k) ∧ Below w.heap.size w wr) (fun i _ => l.length - (intOf i).toNat)
  case atStart => exact ⟨0, by omega, rfl, by rw [← fill_zero]; exact Blk.new _ _ _, (Below.refl _ _).alloc (Nat.le_refl _) _⟩
  case round =>
    obtain ⟨k, hk, rfl, hb, hbel⟩ := hrel
    by_cases hlt : k < l.length
    · obtain ⟨x, hx⟩ : ∃ x, l.getD k 0 = x := ⟨_, rfl⟩
      have hxm : x ∈ l := by rw [← hx]; simp [List.getD, hlt]
      obtain ⟨ad, rfl, hbl, hc⟩ := HR.out.get (k := k) (u := (Value.int .i64) x) (by rw [← hx]; simp [List.getD, hlt])
      have hc' := (hbel.cell (by rw [block_of_add]; exact hbl)).trans hc
      have hs := hbel.size
      have HB := Lib.hid hb; clear hb
      have HBel := Lib.hid hbel; clear hbel
      have HX := Lib.hid hx; clear hx
      clear hc hmk
      go_wp2_with fail
      refine (HF.out x hxm _ HBel.out).mono ?_
      rintro e w1 ⟨rfl, hb1⟩
      have hblk := HB.out.below hb1
      have hcell := hblk.cell k
      rw [fill_get, if_pos hlt, if_neg (by omega)] at hcell
      have hfr := hblk.frozen k
      have hset := hblk.set_ k (Value.string (g x))
      have hfs := fill_set (fun j => Value.string (g (l.getD j 0))) (.string ByteArray.empty) l.length k
      simp only [HX.out] at hfs
      rw [hfs] at hset
      have hbel1 := (HBel.out.trans (hb1.mono HBel.out.size)).setCell (p := ⟨w.heap.size, k, none⟩) (Nat.le_refl _) (Value.string (g x))
      have HS := Lib.hid hset; have HB1 := Lib.hid hbel1
      clear hset hbel1 hblk hb1 hfs
      go_wp2
      go_roundw
      case rel => exact ⟨k + 1, by omega, by go_num, HS.out, HB1.out⟩
      case measure => simp [intOf]; omega
    · have : k = l.length := by omega
      subst this
      go_wp2
      go_ret
      refine ⟨rfl, ⟨_, hb, by simp [fillN], fun j x hj => ?_⟩, hbel⟩
      have hjl : j < l.length := (List.getElem?_eq_some_iff.1 hj).1
      rw [fill_get, if_pos hjl, if_pos hjl]
      simp [List.getD, hj]
def KeepsTwo (a b : Nat) (A B : World) : Prop := (∀ cs, Blk A a 148 cs → Blk B a 148 cs) ∧ (∀ cs, Blk A b 3 cs → Blk B b 3 cs)
theorem keepsTwo_t {a b : Nat} {A B C : World} (h : KeepsTwo a b A B) (k : KeepsTwo a b B C) : KeepsTwo a b A C := ⟨fun cs x => k.1 cs (h.1 cs x), fun cs x => k.2 cs (h.2 cs x)⟩
theorem keepsTwo_put {a b : Nat} (W : World) (l : Nat) (o o' : Obj) (hl : W.heap[l]? = some o) (ho : o.isCells = false) : KeepsTwo a b W (W.putObj l o') := by
  have key : ∀ g t cs, Blk W g t cs → Blk (W.putObj l o') g t cs := fun g t cs h => by
    have hne : l ≠ g := fun e => by subst e; unfold Blk at h; rw [hl] at h; cases h; cases ho
    show (W.putObj l o').heap[g]? = _
    rw [World.putObj_heap_other (by omega)]; exact h
  exact ⟨key a _, key b _⟩
abbrev Row (h : Nat) := { i : Nat // i < h }
def rowV {h : Nat} (l : List (Row h)) : List Nat := l.map (·.1)
theorem rowV_snoc {h : Nat} (l : List (Row h)) (x : Row h) : rowV (l ++ [x]) = rowV l ++ [x.1] := by simp [rowV]
set_option maxRecDepth 100000 in
set_option maxHeartbeats 2000000 in
theorem chunk1_rows (F : Fence) (n : Nat) (h8 : F.fn 177) (hro : F.round = none) (hn : 1 ≤ n) (l Bs Bn g k h c : Nat) (hk : 1 ≤ k) (hk2 : k ≤ 64) (hh : h ≤ 64) (hc : h * k ≤ c) (hcm : c ≤ maxLen) (J Jx : List (Row h) → World → Prop) (hJd : ∀ pre W, J pre W → J pre W.drew)
    (hY : ∀ pre x W, J pre W → pre.length < h → YieldAt F (n - 1) Tryz.prog l #[.slice (some ⟨g, x.1 * k, none⟩) k k] W fun e W' =>
      (e = .returned (.bool true) ∧ J (pre ++ [x]) W' ∧ KeepsTwo Bs Bn W W') ∨ (e = .returned (.bool false) ∧ Jx (pre ++ [x]) W'))
    (W : World) (hBs : Blk W Bs 148 #[.slice (some ⟨g, 0, none⟩) (h * k) c]) (hBn : Blk W Bn 3 #[.int .i64 k]) (h0 : J [] W) :
    CallsIn F n Tryz.prog 177 #[.func (.yield l) #[] #[], .pointer (some ⟨Bs, 0, none⟩), .pointer (some ⟨Bn, 0, none⟩)] W fun e W' => (∃ v, e = .returned v) ∧
      ((∃ ys, rowV ys = List.range h ∧ J ys W') ∨ (∃ pre, Jx pre W')) := by
  refine callsIn_of_wp Tryz.func177 rfl h8 ?_ hro
  simp only [Tryz.ntmps177, List.size_toArray, List.length_cons, List.length_nil, Nat.reduceAdd, Nat.reduceSub, Array.replicate_succ, Array.replicate_zero, List.push_toArray, List.append_toArray, List.nil_append, List.cons_append]
  gi_wp2
  gi_loopw [4] (fun i wr => ∃ j : Nat, j ≤ h ∧ i = .int .i64 ((j * k : Nat) : Int) ∧ (∃ ys : List (Row h), RowKit.Hid (rowV ys = List.range j) ∧ J ys wr) ∧ RowKit.Hid (Blk wr Bs 148 #[.slice (some ⟨g, 0, none⟩) (h * k) c]) ∧ RowKit.Hid (Blk wr Bn 3 #[.int .i64 k]))
    (fun i _ => h * k - (intOf i).toNat)
  case atStart => exact ⟨0, Nat.zero_le _, by simp, ⟨[], Lib.hid rfl, h0⟩, Lib.hid hBs, Lib.hid hBn⟩
  case round =>
    obtain ⟨j, hj, rfl, ⟨ys, hys, hJs⟩, HBS, HBN⟩ := hrel
    have cs := HBS.out.cell 0
    have cn := HBN.out.cell 0
    simp only [List.getElem?_toArray, List.getElem?_cons_zero] at cs cn
    by_cases hlt : j < h
    · have hyl : ys.length < h := by
        have e := congrArg List.length hys.out
        simp [rowV] at e; omega
      obtain ⟨fn, tmps, assign, body, hy, hR⟩ := hY ys ⟨j, hlt⟩ wr.drew (hJd _ _ hJs) hyl
      dsimp only at hy
      have hjk : j * k + k ≤ h * k := by rw [← Nat.succ_mul]; exact Nat.mul_le_mul_right k hlt
      have hhk : h * k ≤ 64 * 64 := Nat.mul_le_mul hh hk2
      obtain ⟨m, hm⟩ : ∃ m, h * k = m := ⟨_, rfl⟩
      obtain ⟨s, hs⟩ : ∃ s, j * k = s := ⟨_, rfl⟩
      rw [hm] at cs hjk hhk hc
      rw [hs] at hjk hy ⊢
      have HM := Lib.hid hm; have HSS := Lib.hid hs
      clear hm hs
      have hcs : ¬ c = s := by omega
      have hmin : min (k : Int) ((m - s : Nat) : Int) = k := by omega
      gi_wp2
      gi_region
      all_goals
        gi_wp2
        refine hR.mono ?_
        rintro e W3 (⟨rfl, hJ3, hk3⟩ | ⟨rfl, hJx3⟩)
        · have hb3 : Blk W3 Bn 3 #[.int .i64 k] := hk3.2 _ (show Blk wr.drew Bn 3 #[.int .i64 k] from HBN.out)
          have c3 := hb3.cell 0
          simp only [List.getElem?_toArray, List.getElem?_cons_zero] at c3
          have HB3 := Lib.hid hb3
          have HS3 := Lib.hid (hk3.1 _ (show Blk wr.drew Bs 148 #[.slice (some ⟨g, 0, none⟩) (h * k) c] from HBS.out))
          clear hb3 hk3
          gi_wp2
          go_roundw
          case rel => exact ⟨j + 1, by omega, by rw [Nat.succ_mul, HSS.out]; simp, ⟨_, Lib.hid (by rw [rowV_snoc, hys.out, List.range_succ]), hJ3⟩, HS3, HB3⟩
          case measure => have hmm := HM.out; simp [intOf]; omega
        · gi_wp2
          refine bodyPost_ret (results_none rfl _ _ _) rfl ?_
          exact ⟨⟨_, rfl⟩, .inr ⟨_, hJx3⟩⟩
    · obtain rfl : j = h := by omega
      gi_wp2
      go_end0
      exact ⟨⟨_, rfl⟩, .inl ⟨_, hys.out, hJs⟩⟩
theorem chunks_seq (F : Fence) (n : Nat) (h8 : F.fn 177) (hro : F.round = none) (hn : 1 ≤ n) (Bs Bn g k h c : Nat) (hk : 1 ≤ k) (hk2 : k ≤ 64) (hh : h ≤ 64) (hc : h * k ≤ c) (hcm : c ≤ maxLen) (w : World)
    (hBs : Blk w Bs 148 #[.slice (some ⟨g, 0, none⟩) (h * k) c]) (hBn : Blk w Bn 3 #[.int .i64 k]) :
    SeqStopsK F n Tryz.prog 177 #[.pointer (some ⟨Bs, 0, none⟩), .pointer (some ⟨Bn, 0, none⟩)] (fun x : Row h => #[Value.slice (some ⟨g, x.1 * k, none⟩) k k]) (KeepsTwo Bs Bn) (fun ys => rowV ys = List.range h) (fun _ => True) h w := fun l J Jx W hW hJ _ hY h0 => by
  refine (chunk1_rows F n h8 hro hn l Bs Bn g k h c hk hk2 hh hc hcm J Jx (fun pre W hp => hJ pre W W.drew none hp ⟨rfl, rfl, rfl, Nat.le_refl _, fun _ _ _ => rfl⟩ (fun r e => by cases e)) hY W (hBs.below hW) (hBn.below hW) h0).mono ?_
  rintro e W' ⟨he, ⟨ys, hy, hj⟩ | ⟨pre, hj⟩⟩
  · exact ⟨he, .inl ⟨_, hy, hj⟩⟩
  · exact ⟨he, .inr ⟨_, trivial, hj⟩⟩
theorem chunk_in (F : Fence) (n : Nat) (h5 : F.fn 139) (hro : F.round = none) (a : Option Addr) (len cap : Nat) (k : Nat) (hk : 1 ≤ k) (w : World) :
    CallsIn F n Tryz.prog 139 #[.slice a len cap, .int .i64 k] w fun e w' => e = .returned (.func (.func 177) #[] #[.pointer (some ⟨w.heap.size, 0, none⟩), .pointer (some ⟨w.heap.size + 1, 0, none⟩)]) ∧ w' = (w.alloc (.cells #[.slice a len cap] 148)).alloc (.cells #[.int .i64 k] 3) := by
  refine callsIn_of_wp Tryz.func139 rfl h5 ?_ hro
  simp only [Tryz.ntmps139, List.size_toArray, List.length_cons, List.length_nil, Nat.reduceAdd, Nat.reduceSub, Array.replicate_succ, Array.replicate_zero, List.push_toArray, List.append_toArray, List.nil_append, List.cons_append]
  have hd : decide ((k : Int) < 1) = false := by simp; omega
  gi_wp2
  go_ret
  exact ⟨rfl, rfl⟩

end Go.Proofs.YtkjkjhheckfhbaaGreatDoor
namespace Go.Proofs.YtkjkjhheckfhbaaGreatDoor
open Go.RowKit
set_option linter.unusedVariables false
open Go.Shelf
attribute [local go_sem] Oper.semAt_some
def itoaB (n : Int) : ByteArray := ⟨(Lib.itoa n).toArray⟩
def wordsOf (l : List Nat) : List ByteArray := l.map (fun b => itoaB (lvl b))
def headWords (p : Pic) : List ByteArray := [⟨#[112, 105, 99, 116, 117, 114, 101]⟩, p.name, itoaB p.w, itoaB p.h]
def rowWords (l : List Nat) (k j : Nat) : List ByteArray := ⟨#[114, 111, 119]⟩ :: ((wordsOf l).drop (j * k)).take k
def printF (p : Pic) (k : Nat) (rows : List Nat) : List UInt8 := lineOf (headWords p) ++ rows.flatMap (fun j => lineOf (rowWords p.l k j))
theorem printF_snoc (p : Pic) (k : Nat) (rows : List Nat) (j : Nat) : printF p k (rows ++ [j]) = printF p k rows ++ lineOf (rowWords p.l k j) := by
  unfold printF; rw [List.flatMap_append, List.append_assoc]; simp
theorem lens_le (xs : List ByteArray) (h : ∀ x ∈ xs, x.size ≤ 24) : Lib.lens (xs.map fun x => x.data.toList) ≤ 24 * xs.length := by
  induction xs with
  | nil => simp [Lib.lens]
  | cons a l ih =>
    have h1 := ih fun x hx => h x (by simp [hx])
    have h2 := h a (by simp)
    have h3 : a.data.toList.length = a.size := Array.length_toList
    simp only [Lib.lens, List.map_cons, List.sum_cons, List.length_cons, List.map_map] at h1 ⊢
    omega
theorem lineOf_len (xs : List ByteArray) (h : ∀ x ∈ xs, x.size ≤ 24) : (lineOf xs).length ≤ 25 * xs.length + 1 := by
  unfold lineOf
  have hl := lens_le xs h
  cases xs with
  | nil => simp [Lib.join, List.intercalate]
  | cons a l =>
    simp only [List.map_cons, List.length_append, List.length_cons, List.length_nil] at hl ⊢
    rw [Lib.join_length]
    simp only [List.length_cons, List.length_nil, List.length_map]
    omega
theorem itoaB_size (n : Int) (h0 : -16384 ≤ n) (h1 : n ≤ 16384) : (itoaB n).size ≤ 24 := by
  have := Lib.itoa_length_le n (by omega) (by omega)
  simp [itoaB, ByteArray.size]; omega
theorem rowWords_len (l : List Nat) (k j : Nat) : (rowWords l k j).length ≤ k + 1 := by
  unfold rowWords; simp; omega
theorem rowWords_size (l : List Nat) (hl : ∀ b ∈ l, -16384 ≤ lvl b ∧ lvl b ≤ 16384) (k j : Nat) : ∀ x ∈ rowWords l k j, x.size ≤ 24 := by
  intro x hx
  unfold rowWords at hx
  rcases List.mem_cons.1 hx with rfl | hx
  · decide
  · have h2 := List.mem_of_mem_drop (List.mem_of_mem_take hx)
    unfold wordsOf at h2
    obtain ⟨b, hb, rfl⟩ := List.mem_map.1 h2
    exact itoaB_size _ (hl b hb).1 (hl b hb).2
theorem printF_len (p : Pic) (hw : ∀ x ∈ headWords p, x.size ≤ 24) (hl : ∀ b ∈ p.l, -16384 ≤ lvl b ∧ lvl b ≤ 16384) (k : Nat) (hk : k ≤ 64) (rows : List Nat) : (printF p k rows).length ≤ 101 + rows.length * 1626 := by
  unfold printF
  have h1 := lineOf_len (headWords p) hw
  have h2 : (rows.flatMap (fun j => lineOf (rowWords p.l k j))).length ≤ rows.length * 1626 := by
    induction rows with
    | nil => simp
    | cons a r ih =>
      have h3 := lineOf_len (rowWords p.l k a) (rowWords_size p.l hl k a)
      have h4 := rowWords_len p.l k a
      simp only [List.flatMap_cons, List.length_append, List.length_cons]
      omega
  simp only [headWords, List.length_cons, List.length_nil] at h1
  rw [List.length_append]
  unfold headWords
  omega
theorem itoaS_any (k : Nat) (hk : k < 100) (w : World) : Calls Tryz.prog 137 #[.int .i64 k] w fun e w' => e = .returned (.string (itoaB k)) ∧ w' = w := by
  refine (Any.strconv_Itoa_small sh_laysM171.ton171 k hk w).mono ?_
  rintro e w' ⟨rfl, rfl⟩
  exact ⟨rfl, rfl⟩
theorem Blk.trans' {w w' : World} {g B : Nat} {t : TypeId} {cs : Array Value} (h : Blk w g t cs) (hb : Below B w w') (hg : g < B) : Blk w' g t cs := (hb.block g hg).trans h
theorem others_blk {b : Nat} {W W' : World} (h : Lib.OthersKept 5 (some b) W W') {g : Nat} {t : TypeId} {cs : Array Value} (hb : Blk W g t cs) (hg : g ≠ b) (ht : t ≠ 5) : Blk W' g t cs :=
  h g _ hb (fun e => hg (by cases e; rfl)) (fun c fz e => ht (by cases e; rfl))
theorem others_keeps {b : Nat} {W W' : World} {o : Obj} (h : Lib.OthersKept 5 (some b) W W') (hs : W.heap.size ≤ W'.heap.size) (hb : W.heap[b]? = some o) (ho : o.isCells = true) : KeepsOthers W W' :=
  ⟨hs, fun k o' hk hc => h k o' hk (fun e => by cases e; rw [hb] at hk; cases hk; rw [ho] at hc; cases hc) (fun c fz e => by subst e; cases hc)⟩
theorem builderF_blk {T e : TypeId} {B b : Nat} {bs : List Value} {w : World} (h : Lib.IsBuilderF T e B b bs w) : ∃ cs, Blk w b T cs := by
  rcases h with ⟨_, v, h, _⟩ | ⟨_, v, h, _⟩ <;> exact ⟨_, h⟩
theorem builderF_kept {T e : TypeId} {B b : Nat} {bs : List Value} {w w' : World} {row : Option Nat} (h : Lib.IsBuilderF T e B b bs w) (hg : w.grownBy w' row) (hr : ∀ r, row = some r → ∃ o : Obj, w.heap[r]? = some o ∧ o.isCells = false) : Lib.IsBuilderF T e B b bs w' := by
  have keep : ∀ g cs t fz, w.heap[g]? = some (Obj.cells cs t fz) → w'.heap[g]? = some (Obj.cells cs t fz) := fun g cs t fz hc => by
    refine (hg.block g (Array.getElem?_eq_some_iff.1 hc).1 (fun e' => ?_)).trans hc
    obtain ⟨o, ho, hcs⟩ := hr g e'.symm
    rw [hc] at ho; cases ho; cases hcs
  have key : ∀ p, Lib.BuilderAtF T e B b p bs w → Lib.BuilderAtF T e B b p bs w' := fun p ⟨hB, v, hc, ⟨h1, h2⟩, hne⟩ => by
    refine ⟨hB, v, keep _ _ _ _ hc, ⟨h1, ?_⟩, hne⟩
    rcases h2 with h2 | ⟨g, cap, cur, fz, hv, hgb, hcu, h3⟩
    · exact .inl h2
    · exact .inr ⟨g, cap, cur, fz, hv, hgb, keep _ _ _ _ hcu, h3⟩
  exact h.elim (fun x => .inl (key _ x)) (fun x => .inr (key _ x))
theorem enters_itoa : Enters Tryz.prog 137 := fun a w => by kernel_rfl
set_option maxRecDepth 100000 in
set_option maxHeartbeats 2000000 in
theorem print_in (p : Pic) (hp : p.Ok) (he : p.err = 0) (k h : Nat) (hk : p.w = (k : Int)) (hh : p.h = (h : Int)) (A : Option Addr) (c : Nat) (w : World) (hs : p.name.size ≤ maxLen) (hr : Rd w A (fl p.l))
    (htab : Lib.TabIs Tryz.prog w "internal/strconv.uint64pow10" .u64 Lib.pow10Tab) :
    CallsIn Fence.wide 6 Tryz.prog 78 #[p.val A c] w fun e w' => e = .returned (.tuple #[.string ⟨(printF p k (List.range h)).toArray⟩, .int .i64 0]) ∧ Below w.heap.size w w' := by
  have hl : p.l.length ≤ maxLen := by have := hp.big; unfold maxLen; omega
  have HR := Lib.hid hr; have HP := Lib.hid hp; have HE := Lib.hid he
  clear hr he
  have h1 : 1 ≤ 6 := by omega
  have hro : Fence.wide.round = none := rfl
  have HTAB := Lib.hid (Lib.tabBelow_of_tabIs htab)
  clear htab
  have hcp := fun w hr => checkPicture_any p A c w hs hl hr
  rw [HE.out] at hcp
  have HCP := Lib.hid hcp; clear hcp
  have HL := Lib.hid (fun w hr => levels_any p.l HP.out.big HP.out.ok A c w hr)
  have hk1 : 1 ≤ k := by have := hp.w1; omega
  have hk2 : k ≤ 64 := by have := hp.w2; omega
  have hh1 : 1 ≤ h := by have := hp.h1; omega
  have hh2 : h ≤ 64 := by have := hp.h2; omega
  have hlen : p.l.length = h * k := by have := hp.len; rw [hk, hh, Int.mul_comm] at this; exact_mod_cast this
  have hbig := hp.big
  have HLEN := Lib.hid hlen
  clear hp hlen
  unfold Pic.val at HCP ⊢
  rw [hk, hh] at HCP ⊢
  refine callsIn_of_wp_marks Tryz.func78 rfl trivial ?_ hro
  simp only [Tryz.ntmps78, List.size_toArray, List.length_cons, List.length_nil, Nat.reduceAdd, Nat.reduceSub, Array.replicate_succ, Array.replicate_zero, List.push_toArray, List.append_toArray, List.nil_append, List.cons_append]
  refine wpIn_wide.2 ?_
  go_wp2_with fail
  have hbx := Blk.new w 50 #[.string p.name, .int .i64 k, .int .i64 h, .slice A p.l.length c]
  have hb0 : Below w.heap.size w (w.alloc (.cells #[.string p.name, .int .i64 k, .int .i64 h, .slice A p.l.length c] 50)) := (Below.refl _ _).alloc (Nat.le_refl _) _
  generalize w.alloc (.cells #[.string p.name, .int .i64 k, .int .i64 h, .slice A p.l.length c] 50) = w0 at hbx hb0 ⊢
  have HB0 := Lib.hid hb0; have HX0 := Lib.hid hbx; clear hb0 hbx
  refine (HCP.out _ (by exact HR.out.below HB0.out)).mono ?_
  rintro e w1 ⟨rfl, hb1⟩
  have HX1 := Lib.hid (HX0.out.below hb1)
  have HB1 := Lib.hid (HB0.out.trans (hb1.mono HB0.out.size)); clear hb1
  go_upto_region 5 with fail
  have hbn := builderF_new w1
  have hx2 := HX1.out.alloc (.cells #[.pointer none, .slice none 0 0] 193)
  have hb2 := HB1.out.alloc HB1.out.size (.cells #[.pointer none, .slice none 0 0] 193)
  have hnb : w.heap.size < w1.heap.size := HX1.out.lt
  have hsz : (w1.alloc (.cells #[.pointer none, .slice none 0 0] 193)).heap.size = w1.heap.size + 1 := by simp only [World.size_alloc]
  obtain ⟨b, hbe⟩ : ∃ b, w1.heap.size = b := ⟨_, rfl⟩
  rw [hbe] at hbn hnb hsz ⊢
  clear hbe
  generalize w1.alloc (.cells #[.pointer none, .slice none 0 0] 193) = w2 at hbn hx2 hb2 hsz ⊢
  have HBN := Lib.hid hbn; have HX2 := Lib.hid hx2; have HB2 := Lib.hid hb2; have HSZ := Lib.hid hsz
  obtain ⟨c0, c1, c2, c3⟩ := box4 hx2
  have zx := hx2.lt
  clear hbn hx2 hb2 hsz HX1 HB1
  refine wp_region_still_tail 8 (by kernel_rfl) (by kernel_rfl) ?_
  simp only [List.take_succ_cons, List.take_zero, List.drop_succ_cons, List.drop_zero]
  still_step
  still_step
  still_step
  still_step
  still_call (itoaS_any k (by omega) _)
  still_step
  still_step
  still_call (itoaS_any h (by omega) _)
  refine wpStill_nil ?_
  change wpList _ _ _ _ _ w2.drew
  have HBN3 : RowKit.Hid (Lib.IsBuilderF 193 5 b b [] w2.drew) := Lib.hid HBN.out
  have HX3 : RowKit.Hid (Blk w2.drew w.heap.size 50 #[.string p.name, .int .i64 k, .int .i64 h, .slice A p.l.length c]) := Lib.hid HX2.out
  have HB3 := Lib.hid HB2.out.drew
  have HSZ3 : RowKit.Hid (w2.drew.heap.size = b + 1) := Lib.hid HSZ.out
  clear HBN HX2 HB2 HSZ c0 c1 c2 c3 zx
  generalize w2.drew = w3 at HBN3 HX3 HB3 HSZ3 ⊢
  go_wp2_with fail
  have hbw := Blk.new w3 9 #[.string ⟨#[112, 105, 99, 116, 117, 114, 101]⟩, .string p.name, .string (itoaB k), .string (itoaB h)]
  have HWD : RowKit.Hid (headWords p = [⟨#[112, 105, 99, 116, 117, 114, 101]⟩, p.name, itoaB k, itoaB h]) := Lib.hid (by unfold headWords; rw [hk, hh])
  have hnm : p.name.size ≤ 24 := by
    have h0 := HP.out.name
    unfold nameOk at h0
    simp at h0; omega
  have HWS : RowKit.Hid (∀ x ∈ headWords p, x.size ≤ 24) := Lib.hid (by
    rw [HWD.out]
    intro x hx
    simp only [List.mem_cons, List.not_mem_nil, or_false] at hx
    rcases hx with rfl | rfl | rfl | rfl
    · decide
    · exact hnm
    · exact itoaB_size _ (by omega) (by omega)
    · exact itoaB_size _ (by omega) (by omega))
  have hll := lineOf_len _ HWS.out
  rw [HWD.out] at hll
  simp only [List.length_cons, List.length_nil] at hll
  have hcw : ∀ (j : Nat) (x : ByteArray), [⟨#[112, 105, 99, 116, 117, 114, 101]⟩, p.name, itoaB k, itoaB h][j]? = some x → (w3.alloc (.cells #[.string ⟨#[112, 105, 99, 116, 117, 114, 101]⟩, .string p.name, .string (itoaB k), .string (itoaB h)] 9)).cell? ⟨w3.heap.size, 0 + j, none⟩ = some (.string x) := fun j x hj => by
    rw [Nat.zero_add, hbw.cell j]
    match j, hj with
    | 0, hj => cases hj; rfl
    | 1, hj => cases hj; rfl
    | 2, hj => cases hj; rfl
    | 3, hj => cases hj; rfl
    | (n + 4), hj => simp at hj
  refine (printLine_any b b [] w3.heap.size 0 4 4 [⟨#[112, 105, 99, 116, 117, 114, 101]⟩, p.name, itoaB k, itoaB h] rfl _ (builderF_below HBN3.out ((Below.refl _ _).alloc (Nat.le_refl _) _)) (by rw [World.size_alloc, HSZ3.out]; omega) hcw (by simp) (by simp) (by simp) (by simp only [List.length_nil]; omega)).mono ?_
  rintro e w5 ⟨rfl, hbn5, hb5, ho5⟩
  rw [List.nil_append, ← HWD.out] at hbn5
  have HBN5 := Lib.hid hbn5
  have HX5 := Lib.hid ((HX3.out.alloc (.cells #[.string ⟨#[112, 105, 99, 116, 117, 114, 101]⟩, .string p.name, .string (itoaB k), .string (itoaB h)] 9)).trans' hb5 hnb)
  have HB5 := Lib.hid ((HB3.out.alloc HB3.out.size (.cells #[.string ⟨#[112, 105, 99, 116, 117, 114, 101]⟩, .string p.name, .string (itoaB k), .string (itoaB h)] 9)).trans (hb5.mono (by omega)))
  clear hbn5 hb5 ho5 hcw hll hbw HBN3 HX3 HB3 HSZ3
  obtain ⟨c0, c1, c2, c3⟩ := box4 HX5.out
  go_wp2_with fail
  refine (HL.out _ (by exact HR.out.below HB5.out)).mono ?_
  rintro e w6 ⟨ad, rfl, hrd, hb6⟩
  have HBN6 := Lib.hid (builderF_below HBN5.out hb6)
  have HX6 := Lib.hid (HX5.out.below hb6)
  have HB6 := Lib.hid (HB5.out.trans (hb6.mono HB5.out.size))
  have HRD := Lib.hid hrd
  clear hb6 hrd c0 c1 c2 c3 HBN5 HX5 HB5
  go_wp2_with fail
  have hmap := mapIS_at (some ad) p.l.length (p.l.map lvl) 137 itoaB w6 (by simp; omega) (by rw [List.map_map]; exact HRD.out) enters_itoa (fun x hx wr hbr => by
    obtain ⟨y, hy, rfl⟩ := List.mem_map.1 hx
    have hb := HP.out.lv hy
    exact itoa_any _ (by omega) (by omega) wr (HTAB.out wr (HB6.out.trans (hbr.mono HB6.out.size))))
  rw [List.length_map] at hmap
  refine hmap.mono ?_
  rintro e w7 ⟨rfl, ⟨C, hC, hCs, hCw⟩, hb7⟩
  have HBN7 := Lib.hid (builderF_below HBN6.out hb7)
  have HX7 := Lib.hid (HX6.out.below hb7)
  have HB7 := Lib.hid (HB6.out.trans (hb7.mono HB6.out.size))
  have hbb : b < w6.heap.size := (builderF_blk HBN6.out).elim (fun _ h => h.lt)
  obtain ⟨g, hg⟩ : ∃ g, w6.heap.size = g := ⟨_, rfl⟩
  rw [hg] at hC hbb ⊢
  have HC := Lib.hid hC
  have HCW : RowKit.Hid (∀ (j : Nat) (x : ByteArray), (wordsOf p.l)[j]? = some x → C[j]? = some (.string x)) := Lib.hid (fun j x hj => by
    unfold wordsOf at hj
    obtain ⟨y, hy, rfl⟩ := Option.map_eq_some_iff.1 (List.getElem?_map .. ▸ hj)
    exact hCw j (lvl y) (by rw [List.getElem?_map, hy]; rfl))
  clear hC hCw hb7 hmap hg HRD HBN6 HX6 HB6
  obtain ⟨c0, c1, c2, c3⟩ := box4 HX7.out
  go_wp2_with fail
  refine (callsIn_wide.1 (chunk_in Fence.wide 3 trivial hro _ _ _ k hk1 _)).mono ?_
  rintro e w' ⟨rfl, rfl⟩
  go_wp2
  rw [HLEN.out]
  have hq0 := (Blk.new w7 148 #[.slice (some ⟨g, 0, none⟩) (h * k) (h * k)]).alloc (.cells #[.int .i64 k] 3)
  have hq1 := Blk.new (w7.alloc (.cells #[.slice (some ⟨g, 0, none⟩) (h * k) (h * k)] 148)) 3 #[.int .i64 k]
  simp only [World.size_alloc] at hq1
  have hb70 : Below w7.heap.size w7 ((w7.alloc (.cells #[.slice (some ⟨g, 0, none⟩) (h * k) (h * k)] 148)).alloc (.cells #[.int .i64 k] 3)) := ((Below.refl _ _).alloc (Nat.le_refl _) _).alloc (by simp) _
  have hsz : ((w7.alloc (.cells #[.slice (some ⟨g, 0, none⟩) (h * k) (h * k)] 148)).alloc (.cells #[.int .i64 k] 3)).heap.size = w7.heap.size + 2 := by simp only [World.size_alloc]
  have hbs : b < w7.heap.size := (builderF_blk HBN7.out).elim (fun _ h => h.lt)
  have hgs : g < w7.heap.size := HC.out.lt
  have HBN8 := Lib.hid (builderF_below HBN7.out hb70)
  have HC8 := Lib.hid (HC.out.below hb70)
  have HB8 := Lib.hid (HB7.out.trans (hb70.mono HB7.out.size))
  obtain ⟨q, hq⟩ : ∃ q, w7.heap.size = q := ⟨_, rfl⟩
  rw [hq] at hq0 hq1 hb70 hsz hbs hgs ⊢
  generalize (w7.alloc (.cells #[.slice (some ⟨g, 0, none⟩) (h * k) (h * k)] 148)).alloc (.cells #[.int .i64 k] 3) = W0 at hq0 hq1 hb70 hsz HBN8 HC8 HB8 ⊢
  have HSZ := Lib.hid hsz
  clear hq hsz hb70 c0 c1 c2 c3 HBN7 HC HX7 HB7
  have hbig2 : h * k ≤ 4096 := by rw [← HLEN.out]; exact hbig
  refine (wpIn_wide (n := 6)).1 ?_
  refine wpIn_rangeFunc_ownF hro h1 (gf := 177) (lb := #[.pointer (some ⟨q, 0, none⟩), .pointer (some ⟨q + 1, 0, none⟩)]) rfl trivial (enters_of Tryz.func177 (by kernel_rfl) rfl)
    (chunks_seq Fence.wide 5 trivial hro (by omega) q (q + 1) g k h (h * k) hk1 hk2 hh2 (Nat.le_refl _) (by unfold maxLen; omega) W0 hq0 hq1) keepsTwo_t (fun W l o o' _ hl ho _ => keepsTwo_put W l o o' hl ho) (Below.refl _ _) (fun _ => rfl)
    (fun pre W => (Lib.IsBuilderF 193 5 b b (Lib.byteCells (printF p k (rowV pre))) W ∧ Blk W g 9 C) ∧ Below w.heap.size w W)
    (fun _ _ _ => False)
    (OwnFrom.and (Own.from (fun s A B row hs hg hr => ⟨builderF_kept hs.1 hg hr, blk_kept hs.2 hg hr⟩) _) (ownFrom_below (Nat.le_refl _) (by rw [HSZ.out]; omega)))
    (fun _ _ _ _ _ hs _ _ => hs)
    ⟨⟨by unfold printF rowV; simpa using HBN8.out, HC8.out⟩, HB8.out⟩
    (fun x => { tmps := #[.agg #[.string p.name, .int .i64 k, .int .i64 h, .slice A (h * k) c], .pointer (some ⟨w.heap.size, 0, none⟩), .string ⟨#[]⟩, .int .i64 0, .int .i64 0, .pointer (some ⟨b, 0, none⟩), .slice (some ⟨g, 0, none⟩) (h * k) (h * k), .slice (some ⟨g, x.1 * k, none⟩) k k, .agg #[.string p.name, .int .i64 k, .int .i64 h, .slice A (h * k) c], .int .i64 0, .int .i64 0, .bool false, undef, .pointer (some ⟨w.heap.size, 0, none⟩), .string p.name, .pointer (some ⟨w.heap.size, 1, none⟩), .int .i64 k, .string (itoaB k), .pointer (some ⟨w.heap.size, 2, none⟩), .int .i64 h, .string (itoaB h), .slice (some ⟨w3.heap.size, 0, none⟩) 4 4, .tuple #[], .pointer (some ⟨w.heap.size, 3, none⟩), .slice A (h * k) c, .slice (some ad) (h * k) (h * k), .slice (some ⟨g, 0, none⟩) (h * k) (h * k), .slice (some ⟨g, 0, none⟩) (h * k) (h * k), .pointer (some ⟨w.heap.size, 1, none⟩), .int .i64 k, .func (.func 177) #[] #[.pointer (some ⟨q, 0, none⟩), .pointer (some ⟨q + 1, 0, none⟩)], .slice (some ⟨g, x.1 * k, none⟩) k k, undef, undef, undef, undef, undef], defers := [] }) ?assign ?body ?done ?stop
  case assign =>
    intro l x W K hK
    gi_wp2
    exact hK
  case body =>
    rintro l pre x W ⟨⟨hbn, hC⟩, hB⟩ hlt
    obtain ⟨i0, hi, hz0, hz1, hz2⟩ := info_parts info_mapIS
    have hxl := x.2
    obtain ⟨T, hT⟩ : ∃ T, printF p k (rowV pre) = T := ⟨_, rfl⟩
    have HT : RowKit.Hid (printF p k (rowV (pre ++ [x])) = T ++ lineOf (rowWords p.l k x.1)) := Lib.hid (by rw [rowV_snoc, printF_snoc, hT])
    have hTl := printF_len p HWS.out (fun b hb => HP.out.lv hb) k hk2 (rowV pre)
    have hrl : (rowV pre).length = pre.length := by simp [rowV]
    rw [hT, hrl] at hTl
    rw [hT] at hbn
    clear hT hrl
    obtain ⟨j, hj⟩ : ∃ j : Nat, x.1 = j := ⟨_, rfl⟩
    rw [hj] at HT hxl ⊢
    clear hj
    have hjk : j * k + k ≤ h * k := by rw [← Nat.succ_mul]; exact Nat.mul_le_mul_right k hxl
    have hwl : (wordsOf p.l).length = h * k := by unfold wordsOf; rw [List.length_map, HLEN.out]
    have hnl : (((wordsOf p.l).drop (j * k)).take k).length = k := by rw [List.length_take, List.length_drop, hwl]; omega
    have hrw : rowWords p.l k j = ⟨#[114, 111, 119]⟩ :: ((wordsOf p.l).drop (j * k)).take k := rfl
    obtain ⟨ws, hws⟩ : ∃ ws, ((wordsOf p.l).drop (j * k)).take k = ws := ⟨_, rfl⟩
    have hcell : ∀ (i : Nat) (u : ByteArray), ws[i]? = some u → C[j * k + i]? = some (.string u) := fun i u hu => by
      rw [← hws] at hu
      have hik : i < k := by rw [← hnl]; rw [hws] at hu ⊢; exact (List.getElem?_eq_some_iff.1 hu).1
      rw [List.getElem?_take_of_lt hik, List.getElem?_drop] at hu
      exact HCW.out _ _ hu
    rw [hws] at hnl hrw
    clear hws hwl
    have hC2 := hC.alloc (.cells #[.string ⟨#[114, 111, 119]⟩] 9)
    have hnews : ∀ (i : Nat) (u : Value), (ws.map Value.string)[i]? = some u → (W.alloc (.cells #[.string ⟨#[114, 111, 119]⟩] 9)).cell? ((⟨g, j * k, none⟩ : Addr).add i) = some u := fun i u hu => by
      have e : (⟨g, j * k, none⟩ : Addr).add i = ⟨g, j * k + i, none⟩ := by unfold Addr.add; split <;> simp_all
      rw [e, hC2.cell]
      rw [List.getElem?_map] at hu
      obtain ⟨y, hy, rfl⟩ := Option.map_eq_some_iff.1 hu
      exact hcell i y hy
    have hown0 : (W.alloc (.cells #[.string ⟨#[114, 111, 119]⟩] 9)).ownsRow W.heap.size 9 1 (.slice (some ⟨W.heap.size, 0, none⟩) 1 1) 1 [.string ⟨#[114, 111, 119]⟩] := ⟨rfl, .inr ⟨W.heap.size, 1, #[.string ⟨#[114, 111, 119]⟩], rfl, Nat.le_refl _, heap_alloc_new W _, Nat.le_refl _, by unfold maxLen; omega, rfl, rfl⟩⟩
    have HBN := Lib.hid hbn; have HC := Lib.hid hC; have HB := Lib.hid hB; have HN := Lib.hid hnews; have HO := Lib.hid hown0; have HNL := Lib.hid hnl; have HRW := Lib.hid hrw
    have hbs2 : b < W.heap.size := (builderF_blk hbn).elim (fun _ h => h.lt)
    have hgs2 : g < W.heap.size := hC.lt
    clear hbn hC hB hnews hown0 hnl hrw hcell hC2
    gi_wp2_with (gi_at_builtin; go_must (refine wpListIn_append_own_at _ (by rfl) (.tmp 32) (.tmp 33) 148 (by rfl) W.heap.size 9 i0 (.string ByteArray.empty) 1 16 Tryz.underlying148 hi hz0 hz1 hz2 (by rfl) (by decide) (.slice (some ⟨W.heap.size, 0, none⟩) 1 1) 1 [.string ⟨#[114, 111, 119]⟩] (by rfl) HO.out ⟨g, j * k, none⟩ k k (ws.map Value.string) rfl (by rw [List.length_map, HNL.out, Nat.mul_one]) HN.out (by simp [Value.oneCell']) (by unfold maxLen; omega) (by omega) (by simp) ?_); intro v' W4 hown1 hgrow hnil hat1; have HOWN := Lib.hid hown1; have HGR := Lib.hid hgrow; clear hown1 hgrow hnil hat1)
    refine ⟨trivial, ?_⟩
    have HBW := Lib.hid (((Below.refl W.heap.size W).alloc (Nat.le_refl _) (.cells #[.string ⟨#[114, 111, 119]⟩] 9)).grown HGR.out (by simp) (fun k hk => by cases hk; exact Nat.le_refl _))
    have hcs := fun (g1 : Nat) (hg1 : v'.ownBlock = some g1) => HOWN.out.cells hg1
    rcases HOWN.out.2 with ⟨_, h0⟩ | ⟨g', c4, cur, rfl, hg', hcur, hle, hmx, _, _⟩
    · omega
    have hcl := lineOf_len (⟨#[114, 111, 119]⟩ :: ws) (by rw [← HRW.out]; exact rowWords_size p.l (fun b hb => HP.out.lv hb) k j)
    rw [List.length_cons, HNL.out] at hcl
    have hlc : (⟨#[114, 111, 119]⟩ :: ws : List ByteArray).length = 1 + k := by rw [List.length_cons, HNL.out]; omega
    have hcc : ∀ (i : Nat) (u : ByteArray), (⟨#[114, 111, 119]⟩ :: ws)[i]? = some u → W4.cell? ⟨g', 0 + i, none⟩ = some (.string u) := fun i u hu => by
      have h2 := hcs g' rfl i (.string u) (by
        have h3 : ([Value.string ⟨#[114, 111, 119]⟩] ++ ws.map Value.string) = (⟨#[114, 111, 119]⟩ :: ws).map Value.string := rfl
        rw [h3, List.getElem?_map, hu]; rfl)
      rw [Nat.zero_add]
      have e : (⟨g', 0, none⟩ : Addr).add i = ⟨g', i, none⟩ := by unfold Addr.add; split <;> simp_all
      rwa [e] at h2
    refine (CallsIn.inRound l (callsIn_wide.2 (printLine_any b b T g' 0 c4 (1 + k) (⟨#[114, 111, 119]⟩ :: ws) hlc W4 (builderF_below HBN.out HBW.out) (by have := HBW.out.size; omega) hcc (Array.getElem?_eq_some_iff.1 hcur).1 (by rw [hlc]; omega) (by rw [hlc]; omega) (by have : pre.length * 1626 ≤ 64 * 1626 := Nat.mul_le_mul_right _ (by omega); omega)))).mono ?_
    rintro e W5 ⟨rfl, hbn5, hb5, ho5⟩
    obtain ⟨cs0, hcs0⟩ := builderF_blk (builderF_below HBN.out HBW.out)
    have HK5 := Lib.hid ((keeps_below HBW.out).trans (others_keeps ho5 hb5.size hcs0 rfl))
    have HO5 := Lib.hid ho5; have HB5 := Lib.hid hb5; have HBN5 := Lib.hid hbn5
    clear hbn5 hb5 ho5 hcs hcur hcc hcs0
    gi_wp2
    refine ⟨HK5.out, ⟨fun cs hq => ?_, fun cs hq => ?_⟩, ⟨?_, ?_⟩, ?_⟩
    · exact others_blk HO5.out (hq.below HBW.out) (by omega) (by decide)
    · exact others_blk HO5.out (hq.below HBW.out) (by omega) (by decide)
    · rw [HT.out, HRW.out]; exact HBN5.out
    · exact others_blk HO5.out (HC.out.below HBW.out) (by omega) (by decide)
    · exact (HB.out.trans (HBW.out.mono HB.out.size)).trans (HB5.out.mono (by omega))
  case done =>
    rintro D ys W hD hys ⟨⟨hbn, hC⟩, hB⟩ hK
    rw [hys] at hbn
    have HBN := Lib.hid hbn; have HB := Lib.hid hB
    have hbs2 : b < W.heap.size := (builderF_blk hbn).elim (fun _ h => h.lt)
    have hDb : D ≠ b := fun e => by
      obtain ⟨cs, hcs⟩ := builderF_blk hbn
      unfold Blk at hcs; subst e; rw [hK] at hcs; cases hcs
    have hD2 : w.heap.size ≤ D := by have := HB8.out.size; omega
    clear hbn hB hC
    go_wp2_with fail
    refine (builderString_any b b (printF p k (List.range h)) W HBN.out (by omega)).mono ?_
    rintro e W5 ⟨rfl, hbn5, hb5, ho5⟩
    have hK5 : W5.heap[D]? = some (.deferred (some [])) := ho5 D _ hK (fun e => hDb (by cases e; rfl)) (fun c fz e => by cases e)
    have hBB := hb5.mono (show w.heap.size ≤ b by omega)
    go_wp2
    refine ⟨by simp, .inl ⟨_, _, rfl, run_takeDeferred hK5, ?_⟩⟩
    refine ⟨.tuple #[.string ⟨(printF p k (List.range h)).toArray⟩, .int .i64 0], by simp [results, Tryz.results78, go_sem], rfl, ?_⟩
    exact (HB.out.trans hBB).trans (belowK_b (w := w) (Nat.le_refl _) W5 D _ _ hD2 hK5 rfl rfl)
  case stop =>
    rintro D c pre W _ _ h _
    exact h.elim
theorem print_ok (p : Pic) (hp : p.Ok) (he : p.err = 0) (k h : Nat) (hk : p.w = (k : Int)) (hh : p.h = (h : Int)) (A : Option Addr) (c : Nat) (w : World) (hs : p.name.size ≤ maxLen) (hr : Rd w A (fl p.l))
    (htab : Lib.TabIs Tryz.prog w "internal/strconv.uint64pow10" .u64 Lib.pow10Tab) :
    Calls Tryz.prog 78 #[p.val A c] w fun e w' => e = .returned (.tuple #[.string ⟨(printF p k (List.range h)).toArray⟩, .int .i64 0]) ∧ Below w.heap.size w w' :=
  callsIn_wide.1 (print_in p hp he k h hk hh A c w hs hr htab)

end Go.Proofs.YtkjkjhheckfhbaaGreatDoor
namespace Go.Proofs.YtkjkjhheckfhbaaGreatDoor
open Go.RowKit
set_option linter.unusedVariables false
set_option maxRecDepth 10000
theorem lt2 {i : Nat} (h : i < 2) : i = 0 ∨ i = 1 := by omega
theorem lt3 {i : Nat} (h : i < 3) : i = 0 ∨ i = 1 ∨ i = 2 := by omega
theorem lt6 {i : Nat} (h : i < 6) : i = 0 ∨ i = 1 ∨ i = 2 ∨ i = 3 ∨ i = 4 ∨ i = 5 := by omega
theorem lt12 {i : Nat} (h : i < 12) : i = 0 ∨ i = 1 ∨ i = 2 ∨ i = 3 ∨ i = 4 ∨ i = 5 ∨ i = 6 ∨ i = 7 ∨ i = 8 ∨ i = 9 ∨ i = 10 ∨ i = 11 := by omega
theorem six_err : (Pic.mk pName 3 2 six).err = 0 := by decide +kernel
theorem six_ok : (Pic.mk pName 3 2 six).Ok := ok_of six_err
theorem rd_six {w : World} {g : Nat} (h : Blk w g 23 (fl six).toArray) : Rd w (some ⟨g, 0, none⟩) (fl six) := rd_of_blk h rfl
theorem ex_at (g : Nat) (w : World) (h : Blk w g 23 (fl six).toArray) : Calls Tryz.prog 29 #[.agg #[.string pName, .int .i64 3, .int .i64 2, .slice (some ⟨g, 0, none⟩) 6 6], .int .i64 2, .int .i64 1] w fun e w' => e = .returned (.tuple #[.float .f32 1086324736, .int .i64 0]) ∧ Below w.heap.size w w' :=
  (at_ok pName 3 2 six six_ok six_err 2 1 (by decide) (by decide) _ 6 w (by decide) (by decide) (by decide) (rd_six h)).mono fun e w' ⟨h1, h2⟩ => ⟨h1, h2⟩
theorem ex_cropped (g : Nat) (w : World) (h : Blk w g 23 (fl six).toArray) : Calls Tryz.prog 31 #[.agg #[.string pName, .int .i64 3, .int .i64 2, .slice (some ⟨g, 0, none⟩) 6 6], .agg #[.int .i64 1, .int .i64 3], .agg #[.int .i64 1, .int .i64 2]] w fun e w' => ∃ k, e = .returned (.tuple #[.agg #[.string pName, .int .i64 2, .int .i64 1, .slice (some ⟨k, 0, none⟩) 2 2], .int .i64 0]) ∧ Rd w' (some ⟨k, 0, none⟩) (fl [1084227584, 1086324736]) ∧ Below w.heap.size w w' :=
  (cropped_ok pName 3 2 six six_ok six_err 1 2 1 1 (by decide) (by decide) _ 6 w (by decide) (by decide) (by decide) (rd_six h)).mono fun e w' ⟨k, h1, h2, h3⟩ => ⟨k, h1, rd_mask h2 (fun _ _ => rfl) rfl (fun i hi => by rcases lt2 hi with rfl | rfl <;> rfl), h3⟩
theorem ex_flipped (g : Nat) (w : World) (h : Blk w g 23 (fl six).toArray) : Calls Tryz.prog 46 #[.agg #[.string pName, .int .i64 3, .int .i64 2, .slice (some ⟨g, 0, none⟩) 6 6]] w fun e w' => ∃ k, e = .returned (.tuple #[.agg #[.string pName, .int .i64 3, .int .i64 2, .slice (some ⟨k, 0, none⟩) 6 6], .int .i64 0]) ∧ Rd w' (some ⟨k, 0, none⟩) (fl [1077936128, 1073741824, 1065353216, 1086324736, 1084227584, 1082130432]) ∧ Below w.heap.size w w' :=
  (flipped_ok pName 3 2 six six_ok six_err _ 6 w (by decide) (by decide) (by decide) (rd_six h)).mono fun e w' ⟨k, h1, h2, h3⟩ => ⟨k, h1, rd_mask h2 (fun _ _ => rfl) rfl (fun i hi => by rcases lt6 hi with rfl | rfl | rfl | rfl | rfl | rfl <;> rfl), h3⟩
theorem ex_transposed (g : Nat) (w : World) (h : Blk w g 23 (fl six).toArray) : Calls Tryz.prog 47 #[.agg #[.string pName, .int .i64 3, .int .i64 2, .slice (some ⟨g, 0, none⟩) 6 6]] w fun e w' => ∃ k, e = .returned (.tuple #[.agg #[.string pName, .int .i64 2, .int .i64 3, .slice (some ⟨k, 0, none⟩) 6 6], .int .i64 0]) ∧ Rd w' (some ⟨k, 0, none⟩) (fl [1065353216, 1082130432, 1073741824, 1084227584, 1077936128, 1086324736]) ∧ Below w.heap.size w w' :=
  (transposed_ok pName 3 2 six six_ok six_err _ 6 w (by decide) (by decide) (by decide) (rd_six h)).mono fun e w' ⟨k, h1, h2, h3⟩ => ⟨k, h1, rd_mask h2 (fun _ _ => rfl) rfl (fun i hi => by rcases lt6 hi with rfl | rfl | rfl | rfl | rfl | rfl <;> rfl), h3⟩
theorem ex_beside (g g2 : Nat) (w : World) (h : Blk w g 23 (fl six).toArray) (h2 : Blk w g2 23 (fl six).toArray) : Calls Tryz.prog 40 #[.agg #[.string pName, .int .i64 3, .int .i64 2, .slice (some ⟨g, 0, none⟩) 6 6], .agg #[.string pName, .int .i64 3, .int .i64 2, .slice (some ⟨g2, 0, none⟩) 6 6]] w fun e w' => ∃ k, e = .returned (.tuple #[.agg #[.string pName, .int .i64 6, .int .i64 2, .slice (some ⟨k, 0, none⟩) 12 12], .int .i64 0]) ∧ Rd w' (some ⟨k, 0, none⟩) (fl [1065353216, 1073741824, 1077936128, 1065353216, 1073741824, 1077936128, 1082130432, 1084227584, 1086324736, 1082130432, 1084227584, 1086324736]) ∧ Below w.heap.size w w' :=
  (beside_ok pName pName 3 3 2 6 rfl six six six_ok six_err six_ok six_err (by decide) _ _ 6 6 w (by decide) (by decide) (by decide) (by decide) (rd_six h) (rd_six h2)).mono fun e w' ⟨k, h1, h2, h3⟩ => ⟨k, h1, rd_mask h2 (fun _ _ => rfl) rfl (fun i hi => by rcases lt12 hi with rfl | rfl | rfl | rfl | rfl | rfl | rfl | rfl | rfl | rfl | rfl | rfl <;> rfl), h3⟩
theorem ex_fields (g : Nat) (w : World) (h : Blk w g 23 (fl six).toArray) : Calls Tryz.prog 48 #[.agg #[.string pName, .int .i64 3, .int .i64 2, .slice (some ⟨g, 0, none⟩) 6 6]] w fun e w' => ∃ ga gb, e = .returned (.tuple #[.agg #[.string pName, .int .i64 3, .int .i64 1, .slice (some ⟨ga, 0, none⟩) 3 3, .string pName, .int .i64 3, .int .i64 1, .slice (some ⟨gb, 0, none⟩) 3 3], .int .i64 0]) ∧ Rd w' (some ⟨ga, 0, none⟩) (fl [1065353216, 1073741824, 1077936128]) ∧ Rd w' (some ⟨gb, 0, none⟩) (fl [1082130432, 1084227584, 1086324736]) ∧ Below w.heap.size w w' :=
  (fields_ok pName 3 2 1 1 six six_ok six_err (by decide) rfl rfl _ 6 w (by decide) (by decide) (rd_six h)).mono fun e w' ⟨ga, gb, h1, _, h2, h3, h4⟩ => ⟨ga, gb, h1, rd_mask h2 (fun _ _ => rfl) rfl (fun i hi => by rcases lt3 hi with rfl | rfl | rfl <;> rfl), rd_mask h3 (fun _ _ => rfl) rfl (fun i hi => by rcases lt3 hi with rfl | rfl | rfl <;> rfl), h4⟩
theorem up_err : (Pic.mk pName 3 1 [1065353216, 1073741824, 1077936128]).err = 0 := by decide +kernel
theorem down_err : (Pic.mk pName 3 1 [1082130432, 1084227584, 1086324736]).err = 0 := by decide +kernel
theorem ex_woven (A A2 : Option Addr) (w : World) (h : Rd w A (fl [1065353216, 1073741824, 1077936128])) (h2 : Rd w A2 (fl [1082130432, 1084227584, 1086324736])) : Calls Tryz.prog 42 #[.agg #[.string pName, .int .i64 3, .int .i64 1, .slice A 3 3], .agg #[.string pName, .int .i64 3, .int .i64 1, .slice A2 3 3]] w fun e w' => ∃ k, e = .returned (.tuple #[.agg #[.string pName, .int .i64 3, .int .i64 2, .slice (some ⟨k, 0, none⟩) 6 6], .int .i64 0]) ∧ Rd w' (some ⟨k, 0, none⟩) (fl [1065353216, 1073741824, 1077936128, 1082130432, 1084227584, 1086324736]) ∧ Below w.heap.size w w' :=
  (woven_ok pName pName 3 1 1 2 rfl [1065353216, 1073741824, 1077936128] [1082130432, 1084227584, 1086324736] (ok_of up_err) up_err (ok_of down_err) down_err (.inl rfl) (by decide) A A2 3 3 w (by decide) (by decide) (by decide) (by decide) h h2).mono fun e w' ⟨k, h1, h2, h3⟩ => ⟨k, h1, rd_mask h2 (fun _ _ => rfl) rfl (fun i hi => by rcases lt6 hi with rfl | rfl | rfl | rfl | rfl | rfl <;> rfl), h3⟩
theorem six_maxLen : six.length ≤ maxLen := by decide
theorem ex_energy (g : Nat) (w : World) (h : Blk w g 23 (fl six).toArray) : Calls Tryz.prog 54 #[.agg #[.string pName, .int .i64 3, .int .i64 2, .slice (some ⟨g, 0, none⟩) 6 6]] w fun e w' => e = .returned (.tuple #[.int .i64 23296, .int .i64 0]) ∧ Below w.heap.size w w' := by
  have hv : (Pic.mk pName 3 2 six).energy = 23296 := by decide +kernel
  have h1 := energy_ok (Pic.mk pName 3 2 six) six_ok six_err (some ⟨g, 0, none⟩) 6 w (by decide) six_maxLen (rd_six h)
  rw [hv] at h1
  exact h1
theorem ex_peak (g : Nat) (w : World) (h : Blk w g 23 (fl six).toArray) : Calls Tryz.prog 55 #[.agg #[.string pName, .int .i64 3, .int .i64 2, .slice (some ⟨g, 0, none⟩) 6 6]] w fun e w' => e = .returned (.tuple #[.int .i64 96, .int .i64 0]) ∧ Below w.heap.size w w' := by
  have hv : (Pic.mk pName 3 2 six).peak = 96 := by decide +kernel
  have h1 := peak_ok (Pic.mk pName 3 2 six) six_ok six_err (some ⟨g, 0, none⟩) 6 w (by decide) six_maxLen (rd_six h)
  rw [hv] at h1
  exact h1
theorem ex_mean (g : Nat) (w : World) (h : Blk w g 23 (fl six).toArray) : Calls Tryz.prog 56 #[.agg #[.string pName, .int .i64 3, .int .i64 2, .slice (some ⟨g, 0, none⟩) 6 6]] w fun e w' => e = .returned (.tuple #[.agg #[.int .i64 7, .int .i64 2], .int .i64 0]) ∧ Below w.heap.size w w' := by
  have hv : (Pic.mk pName 3 2 six).sum / (Pic.mk pName 3 2 six).cd = 7 := by decide +kernel
  have hv2 : 16 * ((Pic.mk pName 3 2 six).l.length : Int) / (Pic.mk pName 3 2 six).cd = 2 := by decide +kernel
  have h1 := mean_ok (Pic.mk pName 3 2 six) six_ok six_err (some ⟨g, 0, none⟩) 6 w (by decide) six_maxLen (rd_six h)
  rw [hv, hv2] at h1
  exact h1

theorem two_err : (Pic.mk pName 2 1 [1031798784, 3179282432]).err = 0 := by decide +kernel
theorem ex_scaled (A : Option Addr) (w : World) (h : Rd w A (fl [1031798784, 3179282432])) : Calls Tryz.prog 53 #[.agg #[.string ⟨#[112]⟩, .int .i64 2, .int .i64 1, .slice A 2 2], .int .i64 1, .int .i64 2] w fun e w' => ∃ ad, e = .returned (.tuple #[.agg #[.string pName, .int .i64 2, .int .i64 1, .slice (some ad) 2 2], .int .i64 0]) ∧ Rd w' (some ad) (fl [1031798784, 0]) ∧ Below w.heap.size w w' := by
  have hv : (scaledL [1031798784, 3179282432] 1 2).map smp = [1031798784, 0] := by decide +kernel
  have h1 := scaled_ok pName 2 1 [1031798784, 3179282432] (ok_of two_err) two_err 1 2 (by decide) (by decide) (by decide +kernel) A 2 w (by decide) h
  rw [hv] at h1
  exact h1
theorem ex_four (w : World) (hP : ∀ i, i < 4 → w.cell? ⟨1, i * 2, none⟩ = some (.int .i64 (pwR i)) ∧ w.cell? ⟨1, i * 2 + 1, none⟩ = some (.int .i64 (pwI i))) (hP1 : 1 < w.heap.size) :
    Calls Tryz.prog 91 #[.agg #[.float .f32 1065353216, .float .f32 1073741824, .float .f32 1077936128, .float .f32 1082130432]] w fun e w' => e = .returned (.tuple #[.agg #[.complex .f32 1092616192 0, .complex .f32 3221225472 1073741824, .complex .f32 3221225472 0, .complex .f32 3221225472 3221225472], .int .i64 0]) ∧ Below w.heap.size w w' := by
  have h1 := four_ok oneToFour (by decide +kernel) _ awake_step w hP hP1
  have s0 : sumS (fun n => (oneToFour n, 0)) 1 0 4 = (1092616192, 0) := by decide +kernel
  have s1 : sumS (fun n => (oneToFour n, 0)) 1 1 4 = (3221225472, 1073741824) := by decide +kernel
  have s2 : sumS (fun n => (oneToFour n, 0)) 1 2 4 = (3221225472, 0) := by decide +kernel
  have s3 : sumS (fun n => (oneToFour n, 0)) 1 3 4 = (3221225472, 3221225472) := by decide +kernel
  have hz : czV (fun k => sumS (fun n => (oneToFour n, 0)) 1 k 4) 4 = #[.complex .f32 1092616192 0, .complex .f32 3221225472 1073741824, .complex .f32 3221225472 0, .complex .f32 3221225472 3221225472] := by
    rw [show czV (fun k => sumS (fun n => (oneToFour n, 0)) 1 k 4) 4 = #[.complex .f32 (sumS (fun n => (oneToFour n, 0)) 1 0 4).1 (sumS (fun n => (oneToFour n, 0)) 1 0 4).2, .complex .f32 (sumS (fun n => (oneToFour n, 0)) 1 1 4).1 (sumS (fun n => (oneToFour n, 0)) 1 1 4).2, .complex .f32 (sumS (fun n => (oneToFour n, 0)) 1 2 4).1 (sumS (fun n => (oneToFour n, 0)) 1 2 4).2, .complex .f32 (sumS (fun n => (oneToFour n, 0)) 1 3 4).1 (sumS (fun n => (oneToFour n, 0)) 1 3 4).2] from rfl, s0, s1, s2, s3]
  rw [hz] at h1
  exact h1
def b8 (n : Nat) (h : n ≤ 255 := by decide) : U8 := ⟨n, by omega, by omega⟩
def frameN : List Nat := [171, 1, 2, 3, 0, 0, 0, 0, 0, 0, 0, 0, 0, 0, 92, 211]
def frameL : List Int := [171, 1, 2, 3, 0, 0, 0, 0, 0, 0, 0, 0, 0, 0, 92, 211]
theorem ex_encode (w : World) : Calls Tryz.prog 64 #[.agg #[.int .i64 1, .int .i64 2, .int .u8 3, .int .u8 0, .int .u8 0, .int .u8 0, .int .u8 0, .int .u8 0, .int .u8 0, .int .u8 0, .int .u8 0, .int .u8 0]] w fun e w' => e = .returned (.tuple #[.agg #[.int .u8 171, .int .u8 1, .int .u8 2, .int .u8 3, .int .u8 0, .int .u8 0, .int .u8 0, .int .u8 0, .int .u8 0, .int .u8 0, .int .u8 0, .int .u8 0, .int .u8 0, .int .u8 0, .int .u8 92, .int .u8 211], .int .i64 0]) ∧ Below w.heap.size w w' := by
  refine (encode_ok (b8 1) (b8 2) (b8 3) u0 u0 u0 u0 u0 u0 u0 u0 u0 w).mono ?_
  rintro e w' ⟨P, S, hP, hS, rfl, hb⟩
  have e1 : P.1 = 0 := hP.symm.trans (by decide +kernel)
  have e2 : P = u0 := Subtype.ext e1
  subst e2
  have e3 : S = 23763 := hS.symm.trans (by decide +kernel)
  subst e3
  exact ⟨rfl, hb⟩
theorem rd_of_owns {w : World} {B : Nat} {e : TypeId} {size : Nat} {A : Option Addr} {n c : Nat} {xs : List Value} (h : w.ownsRow B e size (.slice A n c) n xs) : Rd w A xs := fun h0 => by
  rcases h.2 with ⟨hv, hn⟩ | ⟨g, cap, cur, hv, hb, hg, _⟩
  · have := h.1; rw [hn] at this; omega
  · cases hv
    have hlt := (h.lt g rfl).2
    refine ⟨_, rfl, hlt, fun j u hj => ?_⟩
    exact h.cells (g := g) rfl j u hj
def pk3 : List Pk := [⟨9, 254, 0, 0, 0, 0, 0, 0, 0, 0, 0, 0⟩, ⟨8, 0, 0, 0, 0, 0, 0, 0, 0, 0, 0, 0⟩, ⟨9, 1, 0, 0, 0, 0, 0, 0, 0, 0, 0, 0⟩]
theorem ex_lost (A : Option Addr) (w : World) (h : Rd w A (pksC pk3)) : Calls Tryz.prog 66 #[.slice A 3 3, .int .i64 9] w fun e w' => ∃ A' c, e = .returned (.tuple #[.slice A' 2 c, .int .i64 0]) ∧ Rd w' A' ([255, 0].map (Value.int .i64)) ∧ Below w.heap.size w w' := by
  have hv : lostF 9 pk3 false 0 [] = [255, 0] := by decide +kernel
  have h1 := lost_good A 3 pk3 9 w (by decide) h (by decide +kernel)
  rw [hv] at h1
  refine h1.mono ?_
  rintro e w' ⟨h2 | h2, hb⟩
  · obtain ⟨_, v, rfl, hown⟩ := h2
    obtain ⟨A', c, rfl⟩ := own_shape hown
    exact ⟨A', c, rfl, rd_of_owns hown, hb⟩
  · exact absurd h2.1 (by decide)
def stream18 : List U8 := (7 :: 171 :: frameN).map (fun n => b8 (n % 256) (by omega))
theorem ex_received (A : Option Addr) (c : Nat) (w : World) (hc : 18 ≤ c) (h : BRd w.heap.size w A stream18) : Calls Tryz.prog 73 #[.slice A 18 c] w fun e w' => ∃ A1 c1 A2 c2, e = .returned (.tuple #[.slice A1 1 c1, .slice A2 1 c2, .int .i64 0]) ∧ Rd w' A2 (spansC [(0, 2)]) ∧ Below w.heap.size w w' := by
  have hv : (rfold stream18 (List.range stream18.length)).pk.length = 1 := by decide +kernel
  have hv2 : (rfold stream18 (List.range stream18.length)).sk = [(0, 2)] := by decide +kernel
  have h1 := received_any A c stream18 (by decide) (by exact hc) w h
  rw [hv, hv2] at h1
  refine h1.mono ?_
  rintro e w' ⟨v1, v2, rfl, o1, o2, hb⟩
  obtain ⟨A1, c1, rfl⟩ := own_shape o1
  obtain ⟨A2, c2, rfl⟩ := own_shape o2
  exact ⟨A1, c1, A2, c2, rfl, rd_of_owns o2, hb⟩
def half : List Nat := [3204448256]
def qName : ByteArray := ⟨#[113]⟩
def code12 : List UInt8 := [80, 73, 67, 84, 1, 113, 1, 1, 191, 0, 0, 0]
def CodeAt (w : World) (g : Nat) : Prop := g < w.heap.size ∧ ∀ j (hj : j < code12.length), w.cell? ⟨g, j, none⟩ = some (.int .u8 (code12[j].toNat : Int))
theorem CodeAt.below {w w' : World} {g : Nat} (h : CodeAt w g) (hb : Below w.heap.size w w') : CodeAt w' g := ⟨Nat.lt_of_lt_of_le h.1 hb.size, fun j hj => (hb.cell (p := ⟨g, j, none⟩) h.1).trans (h.2 j hj)⟩
theorem code_text (w : World) (g c : Nat) (h : CodeAt w g) : (convert 106 9 (.slice (some ⟨g, 0, none⟩) 12 c)).run Tryz.prog w = .ok (.string ⟨#[80, 73, 67, 84, 1, 113, 1, 1, 191, 0, 0, 0]⟩) w :=
  run_convert_bytes_back w 106 9 5 ⟨g, 0, none⟩ c code12 Tryz.underlying106 Tryz.underlying5 Tryz.underlying9 (fun j hj => by rw [add_blk]; exact h.2 j hj)
theorem half_err : (Pic.mk qName 1 1 half).err = 0 := by decide +kernel
theorem half_ok : (Pic.mk qName 1 1 half).Ok := ok_of half_err
theorem ex_pack (A : Option Addr) (w : World) (h : Rd w A (fl half)) : Calls Tryz.prog 80 #[.agg #[.string ⟨#[113]⟩, .int .i64 1, .int .i64 1, .slice A 1 1]] w fun e w' => ∃ g c, e = .returned (.tuple #[.slice (some ⟨g, 0, none⟩) 16 c, .int .i64 0]) ∧ 16 ≤ c ∧ CodeAt w' g ∧ Below w.heap.size w w' := by
  have h1 := pack_ok qName 1 1 half half_ok half_err A 1 w h
  have hl : (packU qName 1 1 half).length = 16 := by decide +kernel
  have hx : ((packU qName 1 1 half).map (·.1)).take 12 = code12.map (fun b => (b.toNat : Int)) := by decide +kernel
  refine h1.mono ?_
  rintro e w' ⟨v, n, B, rfl, rfl, hB, hown, hb⟩
  rw [hl] at hown
  rcases hown.2 with ⟨_, h0⟩ | ⟨g, cap, cur, rfl, hb2, hg, hnc, _⟩
  · exact absurd h0 (by decide)
  · refine ⟨g, cap, rfl, hnc, ⟨(hown.lt g rfl).2, fun j hj => ?_⟩, hb⟩
    have hj12 : j < 12 := hj
    have hjl : j < (packU qName 1 1 half).length := by rw [hl]; omega
    have h2 : ((packU qName 1 1 half).map (·.1))[j]? = some (code12[j].toNat : Int) := by
      have h3 : (((packU qName 1 1 half).map (·.1)).take 12)[j]? = some (code12[j].toNat : Int) := by rw [hx, List.getElem?_map, List.getElem?_eq_getElem hj]; rfl
      rw [List.getElem?_take, if_pos hj12] at h3
      exact h3
    rw [← add_blk]
    refine hown.cells (g := g) rfl j _ ?_
    rw [List.getElem?_map] at h2 ⊢
    obtain ⟨u, hu, hu2⟩ := Option.map_eq_some_iff.1 h2
    rw [hu, Option.map_some]
    exact congrArg (fun z => some (Value.int .u8 z)) hu2
def printed : ByteArray := ⟨#[112, 105, 99, 116, 117, 114, 101, 32, 113, 32, 49, 32, 49, 10, 114, 111, 119, 32, 45, 56, 10]⟩
theorem ex_print (A : Option Addr) (w : World) (h : Rd w A (fl half)) (htab : Lib.TabIs Tryz.prog w "internal/strconv.uint64pow10" .u64 Lib.pow10Tab) : Calls Tryz.prog 78 #[.agg #[.string ⟨#[113]⟩, .int .i64 1, .int .i64 1, .slice A 1 1]] w fun e w' => e = .returned (.tuple #[.string ⟨#[112, 105, 99, 116, 117, 114, 101, 32, 113, 32, 49, 32, 49, 10, 114, 111, 119, 32, 45, 56, 10]⟩, .int .i64 0]) ∧ Below w.heap.size w w' := by
  have hv : printF (Pic.mk qName 1 1 half) 1 (List.range 1) = printed.data.toList := by decide +kernel
  have h1 := print_ok (Pic.mk qName 1 1 half) half_ok half_err 1 1 rfl rfl A 1 w (by decide) h htab
  rw [hv] at h1
  exact h1
theorem has_true (W H : Int) (A : Option Addr) (c n g : Nat) (l k : List Nat) (w : World) (hl : l.length = n) (hk : k.length = n) (hn : n ≤ maxLen) (hs : sameF l k = true) (hr : Rd w A (fl l)) (hb : Blk w g 23 (fl k).toArray) :
    Calls Tryz.prog 95 #[.agg #[.string pName, .int .i64 W, .int .i64 H, .slice A n c], .int .i64 W, .int .i64 H, .slice (some ⟨g, 0, none⟩) n n] w fun e w' => e = .returned (.bool true) ∧ Below w.heap.size w w' := by
  have h1 := has_any W H A (some ⟨g, 0, none⟩) c n l k w (by rw [hl]; exact hn) (by rw [hk]; exact hn) hr (rd_of_blk hb rfl)
  rw [hl, hk, hs] at h1
  exact h1
theorem box8 {w : World} {g : Nat} {t : TypeId} {a b c d e f i j : Value} (h : Blk w g t #[a, b, c, d, e, f, i, j]) : w.cell? ⟨g, 0, none⟩ = some a ∧ w.cell? ⟨g, 1, none⟩ = some b ∧ w.cell? ⟨g, 2, none⟩ = some c ∧ w.cell? ⟨g, 3, none⟩ = some d ∧ w.cell? ⟨g, 4, none⟩ = some e ∧ w.cell? ⟨g, 5, none⟩ = some f ∧ w.cell? ⟨g, 6, none⟩ = some i ∧ w.cell? ⟨g, 7, none⟩ = some j :=
  ⟨h.cell 0, h.cell 1, h.cell 2, h.cell 3, h.cell 4, h.cell 5, h.cell 6, h.cell 7⟩
theorem eq_ratio (w : World) : (Op.equalIn 10000 33 (.agg #[.int .i64 7, .int .i64 2]) (.agg #[.int .i64 7, .int .i64 2])).run Tryz.prog w = .ok true w := by kernel_rfl
theorem eq_panel (w : World) : (Op.equalIn 10000 138 (.agg #[.complex .f32 1092616192 0, .complex .f32 3221225472 1073741824, .complex .f32 3221225472 0, .complex .f32 3221225472 3221225472]) (.agg #[.complex .f32 1092616192 0, .complex .f32 3221225472 1073741824, .complex .f32 3221225472 0, .complex .f32 3221225472 3221225472])).run Tryz.prog w = .ok true w := by kernel_rfl
theorem eq_begin (w : World) : (Op.equalIn 10000 153 (.agg #[.int .u8 171, .int .u8 1, .int .u8 2, .int .u8 3, .int .u8 0, .int .u8 0, .int .u8 0, .int .u8 0, .int .u8 0, .int .u8 0, .int .u8 0, .int .u8 0, .int .u8 0, .int .u8 0]) (.agg #[.int .u8 171, .int .u8 1, .int .u8 2, .int .u8 3, .int .u8 0, .int .u8 0, .int .u8 0, .int .u8 0, .int .u8 0, .int .u8 0, .int .u8 0, .int .u8 0, .int .u8 0, .int .u8 0])).run Tryz.prog w = .ok true w := by kernel_rfl
theorem own_cons {w : World} {B : Nat} {e : TypeId} {size : Nat} {v : Value} {n : Nat} {xs : List Value} (h : w.ownsRow B e size v n xs) (hn : 0 < n) : ∃ g cap, v = .slice (some ⟨g, 0, none⟩) n cap ∧ n ≤ cap := by
  rcases h.2 with ⟨_, h0⟩ | ⟨g, cap, cur, rfl, _, _, hc, _⟩
  · omega
  · exact ⟨g, cap, rfl, hc⟩
theorem own_two (w : World) (a b : Value) : (w.alloc (.cells #[a, b] 5)).ownsRow w.heap.size 5 1 (.slice (some ⟨w.heap.size, 0, none⟩) 2 2) 2 [a, b] :=
  ⟨rfl, .inr ⟨_, 2, #[a, b], rfl, Nat.le_refl _, heap_alloc_new w _, Nat.le_refl _, by decide, rfl, rfl⟩⟩
theorem ints_true (A : Option Addr) (c g : Nat) (w : World) (hr : Rd w A ([255, 0].map (Value.int .i64))) (hb : Blk w g 3 #[.int .i64 255, .int .i64 0]) : Calls Tryz.prog 23 #[.slice A 2 c, .slice (some ⟨g, 0, none⟩) 2 2] w fun e w' => e = .returned (.bool true) ∧ Below w.heap.size w w' := by
  have hs : sameI [255, 0] [255, 0] = true := by decide
  have h1 := sameInts_any A (some ⟨g, 0, none⟩) c 2 [255, 0] [255, 0] w (by decide) (by decide) hr (rd_of_blk hb rfl)
  rw [hs] at h1
  exact h1
theorem spans_true (A : Option Addr) (c g : Nat) (w : World) (hr : Rd w A (spansC [(0, 2)])) (hb : Blk w g 47 #[.int .i64 0, .int .i64 2]) : Calls Tryz.prog 77 #[.slice A 1 c, .slice (some ⟨g, 0, none⟩) 1 1] w fun e w' => e = .returned (.bool true) ∧ Below w.heap.size w w' := by
  have hs : sameP [(0, 2)] [(0, 2)] = true := by decide
  have h1 := sameSpans_any A (some ⟨g, 0, none⟩) c 1 [(0, 2)] [(0, 2)] w (by decide) (by decide) hr (rd_of_blk hb rfl)
  rw [hs] at h1
  exact h1
def two : List U8 := [b8 1, b8 2]
theorem ex_check (A : Option Addr) (w : World) (h : BRd w.heap.size w A two) : Calls Tryz.prog 96 #[.slice A 2 2] w fun e w' => e = .returned (.int .i64 63254) ∧ w = w' := by
  have hv : rollF 251 65521 two 1 = 63254 := by decide +kernel
  have h1 := checkRef_any A 2 two (by decide) w h
  rw [hv] at h1
  exact h1


end Go.Proofs.YtkjkjhheckfhbaaGreatDoor
