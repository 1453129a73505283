import Derived.Test.YtkikhmleffcajaaGreatDoorJRdX
import Derived.Shelf.Strings.OnBuilder
import Derived.Shelf.Strings.Builder1
import Derived.Shelf.Strings.BuilderF
import Derived.Shelf.Strings.BuilderK
import Derived.Test.YtkikhmleffcajaaGreatDoorProg
namespace Go.Proofs.YtkikhmleffcajaaGreatDoor
open Go.RowKit Go.Maps

/-- Does a byte stand for itself in a form? -/
def unchN (n : Nat) : Bool := decide (65 ≤ n ∧ n ≤ 90) || decide (48 ≤ n ∧ n ≤ 57) || decide (97 ≤ n ∧ n ≤ 122) || decide (0 ≤ Lib.indexByte [46, 47, 95, 61, 58, 45] n.toUInt8)
end Go.Proofs.YtkikhmleffcajaaGreatDoor

namespace Go.Proofs
open Go.Shelf Go.RowKit
def Tryz.lays156_ren : Go.Shelf.Ren := ⟨fun | 156 => 161 | 165 => 181 | 166 => 182 | 169 => 183 | 240 => 209 | 241 => 210 | 276 => 243 | 277 => 244 | n => n, fun | 31 => 56 | 9 => 9 | 3 => 3 | 4 => 4 | 0 => 0 | 20 => 20 | 72 => 254 | 76 => 256 | 70 => 252 | 37 => 73 | 75 => 34 | 127 => 278 | 164 => 104 | 5 => 5 | 80 => 153 | n => n, fun | n => n⟩
theorem Tryz.lays156 : Go.Proofs.Lays.n156 Tryz.prog Tryz.lays156_ren := {
  mixed := by kernel_rfl
  f156 := Tryz.func161.trans (congrArg some (by kernel_rfl))
  f165 := Tryz.func181.trans (congrArg some (by kernel_rfl))
  f166 := Tryz.func182.trans (congrArg some (by kernel_rfl))
  f169 := Tryz.func183.trans (congrArg some (by kernel_rfl))
  f240 := Tryz.func209.trans (congrArg some (by kernel_rfl))
  f241 := Tryz.func210.trans (congrArg some (by kernel_rfl))
  f276 := Tryz.func243.trans (congrArg some (by kernel_rfl))
  f277 := Tryz.func244.trans (congrArg some (by kernel_rfl))
  t0 := Tryz.underlying0
  a0 := Tryz.isAgg0
  z0 := Tryz.sizeOf0
  v0 := Tryz.zeroValue0
  t3 := Tryz.underlying3
  a3 := Tryz.isAgg3
  z3 := Tryz.sizeOf3
  v3 := Tryz.zeroValue3
  t4 := Tryz.underlying4
  a4 := Tryz.isAgg4
  z4 := Tryz.sizeOf4
  v4 := Tryz.zeroValue4
  t9 := Tryz.underlying9
  a9 := Tryz.isAgg9
  z9 := Tryz.sizeOf9
  v9 := Tryz.zeroValue9
  t20 := Tryz.underlying20
  a20 := Tryz.isAgg20
  z20 := Tryz.sizeOf20
  v20 := Tryz.zeroValue20
  t31 := Tryz.underlying56
  a31 := Tryz.isAgg56
  z31 := Tryz.sizeOf56
  v31 := Tryz.zeroValue56
  t37 := Tryz.underlying73
  a37 := Tryz.isAgg73
  z37 := Tryz.sizeOf73
  v37 := Tryz.zeroValue73
  t70 := Tryz.underlying252
  a70 := Tryz.isAgg252
  z70 := Tryz.sizeOf252
  v70 := Tryz.zeroValue252
  t72 := Tryz.underlying254
  a72 := Tryz.isAgg254
  z72 := Tryz.sizeOf254
  v72 := Tryz.zeroValue254
  t75 := Tryz.underlying34
  a75 := Tryz.isAgg34
  z75 := Tryz.sizeOf34
  v75 := Tryz.zeroValue34
  t76 := Tryz.underlying256
  a76 := Tryz.isAgg256
  z76 := Tryz.sizeOf256
  v76 := Tryz.zeroValue256
  t127 := Tryz.underlying278
  a127 := Tryz.isAgg278
  z127 := Tryz.sizeOf278
  v127 := Tryz.zeroValue278
  t164 := Tryz.underlying104
  a164 := Tryz.isAgg104
  z164 := Tryz.sizeOf104
  v164 := Tryz.zeroValue104 }
theorem Tryz.Builder_Extra_156 : Builder.Extra Tryz.prog Tryz.lays156_ren := {
  sizeBuilder := by kernel_rfl
  liesBuilder := by kernel_rfl
  t5 := Tryz.underlying5
  a5 := Tryz.isAgg5
  z5 := Tryz.sizeOf5
  v5 := Tryz.zeroValue5
  infoByte := by kernel_rfl
  cellsByte := by kernel_rfl
  sizeByte := by kernel_rfl
  neB5 := by decide }
open Go.RowKit in
theorem Tryz.strings_Join_none (a : Option Addr) (c : Nat) (sep : ByteArray) (w : World) :
    Calls Tryz.prog 161 #[.slice a 0 c, .string sep] w fun e w' => e = .returned (.string ⟨#[]⟩) ∧ w' = w := Any.strings_Join_none Tryz.lays156 Tryz.Builder_Extra_156 a c sep w
open Go.RowKit in
theorem Tryz.strings_Join (bk o c : Nat) (xs : List ByteArray) (sep : ByteArray) (w : World) (hcells : ∀ (j : Nat) x, xs[j]? = some x → w.cell? ⟨bk, o + j, none⟩ = some (.string x)) (hbk : bk < w.heap.size) (hN : xs.length ≤ 140737488355328) (hcap : xs.length ≤ c) (hlen : (Lib.join (xs.map (·.data.toList)) sep.data.toList).length ≤ 140737488355328) :
    Calls Tryz.prog 161 #[.slice (some ⟨bk, o, none⟩) xs.length c, .string sep] w fun e w' => e = .returned (.string ⟨(Lib.join (xs.map (·.data.toList)) sep.data.toList).toArray⟩) ∧ Below w.heap.size w w' := Any.strings_Join Tryz.lays156 Tryz.Builder_Extra_156 bk o c xs sep w hcells hbk hN hcap hlen
theorem Tryz.Builder_WriteString (B b : Nat) (bs : List Value) (s : ByteArray) (w : World) (h : Lib.IsBuilder 254 5 B b bs w) (hlen : bs.length + s.size ≤ 140737488355328) (hBw : B ≤ w.heap.size) :
    Calls Tryz.prog 182 #[.pointer (some ⟨b, 0, none⟩), .string s] w fun e w' => e = .returned (.tuple #[.int .i64 s.size, .nilIface]) ∧ (Lib.BuilderAt 254 5 B b (.pointer (some ⟨b, 0, none⟩)) (bs ++ Lib.strCells s) w' ∧ Below B w w') := Any.Builder_WriteString { Tryz.lays156 with } Tryz.Builder_Extra_156 B b bs s w h hlen hBw
theorem Tryz.Builder_String_any (B b : Nat) (l : List UInt8) (w : World) (h : Lib.IsBuilder 254 5 B b (Lib.byteCells l) w) (hBw : B ≤ w.heap.size) :
    Calls Tryz.prog 183 #[.pointer (some ⟨b, 0, none⟩)] w fun e w' => e = .returned (.string ⟨l.toArray⟩) ∧ Below B w w' := Any.Builder_String_any { Tryz.lays156 with } Tryz.Builder_Extra_156 B b l w h hBw
end Go.Proofs

namespace Go.Proofs.YtkikhmleffcajaaGreatDoor
open Go.RowKit Go.Maps

theorem builder_later {T e : TypeId} {B b : Nat} {p : Value} {bs : List Value} {w w' : World} (h : Lib.BuilderAt T e B b p bs w) (hb : Below w.heap.size w w') : Lib.BuilderAt T e B b p bs w' := by
  obtain ⟨h1, v, h2, h3, h4⟩ := h
  refine ⟨h1, v, (hb.block b (Array.getElem?_eq_some_iff.1 h2).1).trans h2, h3.kept (grown_of_below hb) ?_, h4⟩
  cases hv : v.ownBlock <;> simp
/-- A Builder of the call's own that holds this text. -/
def Bld (B b : Nat) (l : List UInt8) (w : World) : Prop := Lib.IsBuilder 254 5 B b (Lib.byteCells l) w ∧ B ≤ w.heap.size
theorem Bld.later {B b : Nat} {l : List UInt8} {w w' : World} (h : Bld B b l w) (hb : Below w.heap.size w w') : Bld B b l w' := by
  refine ⟨?_, Nat.le_trans h.2 hb.size⟩
  rcases h.1 with h1 | h1
  · exact .inl (builder_later h1 hb)
  · exact .inr (builder_later h1 hb)
theorem bld_new (w : World) : Bld w.heap.size w.heap.size [] (w.alloc (.cells #[.pointer none, .slice none 0 0] 254)) :=
  ⟨.inl ⟨Nat.le_refl _, .slice none 0 0, heap_alloc_new _ _, World.ownsRow_nil _ _ _ _, by simp [Value.ownBlock]⟩, by simp⟩
theorem byteCells_len (l : List UInt8) : (Lib.byteCells l).length = l.length := by simp [Lib.byteCells]
theorem wsB (B b : Nat) (l : List UInt8) (s : ByteArray) (w : World) (h : Bld B b l w) (hl : l.length + s.size ≤ 4294967296) :
    Calls Tryz.prog 182 #[.pointer (some ⟨b, 0, none⟩), .string s] w fun e w' => e = .returned (.tuple #[.int .i64 s.size, .nilIface]) ∧ Bld B b (l ++ s.data.toList) w' ∧ Below B w w' := by
  refine (Tryz.Builder_WriteString B b _ _ w h.1 (by rw [byteCells_len]; omega) h.2).mono ?_
  rintro e w' ⟨rfl, hb, hbl⟩
  refine ⟨rfl, ⟨.inr ?_, Nat.le_trans h.2 hbl.size⟩, hbl⟩
  simpa [Lib.byteCells, Lib.strCells] using hb
theorem wstr (B b : Nat) (l : List UInt8) (w : World) (h : Bld B b l w) :
    Calls Tryz.prog 183 #[.pointer (some ⟨b, 0, none⟩)] w fun e w' => e = .returned (.string ⟨l.toArray⟩) ∧ Below B w w' :=
  Tryz.Builder_String_any B b l w h.1 h.2


/-- A byte's form, and a text's. -/
def byteF (c : UInt8) : List UInt8 := if unchN c.toNat then [c] else [92, c]
def bytesF (l : List UInt8) : List UInt8 := (l.map byteF).flatten
def textF (l : List UInt8) : List UInt8 := if l = [] then [34, 34] else bytesF l
theorem bytesF_len (l : List UInt8) : (bytesF l).length ≤ 2 * l.length := by
  induction l with
  | nil => simp [bytesF]
  | cons a r ih =>
    have h1 : bytesF (a :: r) = byteF a ++ bytesF r := by simp [bytesF]
    rw [h1, List.length_append, List.length_cons]
    have : (byteF a).length ≤ 2 := by unfold byteF; split <;> simp
    omega
theorem bytesF_snoc (l : List UInt8) (c : UInt8) : bytesF (l ++ [c]) = bytesF l ++ byteF c := by simp [bytesF]
theorem byteF_yes {c : UInt8} (h : unchN c.toNat = true) : byteF c = [c] := by simp [byteF, h]
theorem byteF_no {c : UInt8} (h : unchN c.toNat = false) : byteF c = [92] ++ [c] := by simp [byteF, h]
end Go.Proofs.YtkikhmleffcajaaGreatDoor

namespace Go.Proofs.YtkikhmleffcajaaGreatDoor
open Go.RowKit Go.Maps

/-- A part's form, a word's. -/
def partF (p : Prt) : List UInt8 := if p.isVar then [36, 123] ++ p.text.data.toList ++ [125] else textF p.text.data.toList
def partsF (l : List Prt) : List UInt8 := (l.map partF).flatten
def formW (l : List Prt) : List UInt8 := if l = [] then [34, 34] else partsF l
def szP (l : List Prt) : Nat := (l.map fun p => 2 * p.text.size + 3).sum
theorem textF_len (l : List UInt8) : (textF l).length ≤ 2 * l.length + 2 := by
  unfold textF
  split
  · simp
  · have := bytesF_len l; omega
theorem partF_len (p : Prt) : (partF p).length ≤ 2 * p.text.size + 3 := by
  unfold partF
  split
  · have := Lib.size_eq p.text; rw [List.length_append, List.length_append, ← this]; simp; omega
  · have := textF_len p.text.data.toList; rw [← Lib.size_eq] at this; omega
theorem partsF_snoc (l : List Prt) (p : Prt) : partsF (l ++ [p]) = partsF l ++ partF p := by simp [partsF]
theorem partsF_len (l : List Prt) : (partsF l).length ≤ szP l := by
  induction l with
  | nil => simp [partsF, szP]
  | cons a r ih =>
    have h1 : partsF (a :: r) = partF a ++ partsF r := by simp [partsF]
    have h2 : szP (a :: r) = 2 * a.text.size + 3 + szP r := by simp [szP]
    rw [h1, h2, List.length_append]
    have := partF_len a
    omega
theorem szP_app (l r : List Prt) : szP (l ++ r) = szP l + szP r := by simp [szP]
theorem szP_take (l : List Prt) (k : Nat) : szP (l.take k) ≤ szP l := by
  have := szP_app (l.take k) (l.drop k)
  rw [List.take_append_drop] at this
  omega
theorem szP_mem {l : List Prt} {k : Nat} {p : Prt} (h : l[k]? = some p) : szP (l.take k) + (2 * p.text.size + 3) ≤ szP l := by
  have h1 : l.take (k + 1) = l.take k ++ [p] := by rw [List.take_add_one, h]; rfl
  have h2 := szP_take l (k + 1)
  rw [h1, szP_app] at h2
  have h3 : szP [p] = 2 * p.text.size + 3 := by simp [szP]
  omega
end Go.Proofs.YtkikhmleffcajaaGreatDoor

namespace Go.Proofs.YtkikhmleffcajaaGreatDoor
open Go.RowKit Go.Maps

/-- An instruction's form. -/
def formI (ws : List (List Atm)) : List UInt8 := Lib.join (ws.map fun x => formW (parts x)) [32]
def szI (ws : List (List Atm)) : Nat := (ws.map fun x => szP (parts x) + 3).sum
theorem formW_len (l : List Prt) : (formW l).length ≤ szP l + 2 := by
  unfold formW
  split
  · simp
  · have := partsF_len l; omega
theorem join_len : ∀ xs : List (List UInt8), (Lib.join xs [32]).length ≤ (xs.map fun l => l.length + 1).sum
  | [] => by simp [Lib.join, List.intercalate]
  | [a] => by simp [Lib.join, List.intercalate]
  | a :: b :: r => by
    have ih := join_len (b :: r)
    have h1 : Lib.join (a :: b :: r) [32] = a ++ [32] ++ Lib.join (b :: r) [32] := by simp [Lib.join, List.intercalate]
    rw [h1, List.length_append, List.length_append, List.map_cons, List.sum_cons]
    simp only [List.length_cons, List.length_nil]
    omega
theorem formI_len (ws : List (List Atm)) : (formI ws).length ≤ szI ws := by
  refine Nat.le_trans (join_len _) ?_
  unfold szI
  induction ws with
  | nil => simp
  | cons a r ih =>
    simp only [List.map_cons, List.sum_cons]
    have := formW_len (parts a)
    omega
theorem szI_mem {ws : List (List Atm)} {x : List Atm} (h : x ∈ ws) : szP (parts x) ≤ szI ws := by
  induction ws with
  | nil => cases h
  | cons a r ih =>
    have h2 : szI (a :: r) = szP (parts a) + 3 + szI r := by simp [szI]
    rcases List.mem_cons.1 h with rfl | h
    · omega
    · have := ih h; omega
theorem info9w : (Tryz.prog.info? 9).map (fun i => (i.zero, i.size, i.bytes)) = some (some (.string ByteArray.empty), 1, 16) := by kernel_rfl
abbrev StrRow (w : World) (B : Nat) (v : Value) (us : List ByteArray) : Prop := w.ownsRow B 9 1 v us.length (us.map Value.string)
end Go.Proofs.YtkikhmleffcajaaGreatDoor

namespace Go.Proofs.YtkikhmleffcajaaGreatDoor
open Go.RowKit Go.Maps

theorem sum_mem {α : Type} (f : α → Nat) : ∀ (l : List α) (k : Nat) (x : α), l[k]? = some x → ((l.take k).map f).sum + f x ≤ (l.map f).sum := by
  intro l
  induction l with
  | nil => intro k x h; simp at h
  | cons a r ih =>
    intro k x h
    cases k with
    | zero => simp at h; subst h; simp
    | succ k =>
      simp only [List.getElem?_cons_succ] at h
      have := ih k x h
      simp only [List.take_succ_cons, List.map_cons, List.sum_cons]
      omega
theorem flat_len {α : Type} (g : α → List UInt8) (f : α → Nat) (h : ∀ x, (g x).length ≤ f x) (l : List α) : ((l.map g).flatten).length ≤ (l.map f).sum := by
  induction l with
  | nil => simp
  | cons a r ih =>
    simp only [List.map_cons, List.flatten_cons, List.length_append, List.sum_cons]
    have := h a
    omega
theorem flat_snoc {α : Type} (g : α → List UInt8) (l : List α) (k : Nat) (x : α) (h : l[k]? = some x) : ((l.take (k + 1)).map g).flatten = ((l.take k).map g).flatten ++ g x := by
  rw [List.take_add_one, h]; simp
/-- A line of a form; the lines of a stage; those of a file. -/
def inL (m : InM) : List UInt8 := formI (m.ws.map WdM.xs) ++ [10]
def insL (l : List InM) : List UInt8 := (l.map inL).flatten
def stL (s : StM) : List UInt8 := insL s.ins
def filL (ss : List StM) : List UInt8 := (ss.map stL).flatten
def szM (m : InM) : Nat := szI (m.ws.map WdM.xs) + 1
def szL (l : List InM) : Nat := (l.map szM).sum
def szT (s : StM) : Nat := szL s.ins
def szF (ss : List StM) : Nat := (ss.map szT).sum
theorem inL_len (m : InM) : (inL m).length ≤ szM m := by
  unfold inL szM
  rw [List.length_append]
  have := formI_len (m.ws.map WdM.xs)
  simp; omega
theorem insL_len (l : List InM) : (insL l).length ≤ szL l := flat_len inL szM inL_len l
theorem filL_len (ss : List StM) : (filL ss).length ≤ szF ss := flat_len stL szT (fun s => insL_len s.ins) ss
end Go.Proofs.YtkikhmleffcajaaGreatDoor
