import Derived.Test.YtjofjcjojgpaeaaGreatDoorJPckB
import Derived.Deep.CutBlock
namespace Go.Proofs.YtjofjcjojgpaeaaGreatDoor
open Go.RowKit

theorem bt_nil : (⟨#[]⟩ : ByteArray) = bt [] := rfl
theorem nil_list : (⟨#[]⟩ : ByteArray).data.toList = [] := rfl
/-- What is asked of a change that is packed. -/
structure PkC (c : Ent) (m : Nat) : Prop where
  mode : c.mode = (m : Int)
  m512 : m < 512
  path : c.path.size ≤ 1048576
  data : c.data.size ≤ 1048576
  gone : c.kind = 4 → c.path.data.toList ≠ []
  name : (nameL c).length ≤ 1048576
  rest : (partL (nameL c)).2.length ≤ 100
  ahead : (partL (nameL c)).1.length ≤ 155
  link : (linkL c).length ≤ 100
  file : (dataL c).length ≤ 4096
theorem head_len {c : Ent} {m : Nat} (h : PkC c m) : (headL c).length = 148 := by
  have h0 : (octL 0).length ≤ 7 := by rw [octL, if_pos (by omega)]; simp
  have h1 : (octL c.mode.toNat).length ≤ 7 := by
    have := octL_lt 2 c.mode.toNat (by have := h.mode; have := h.m512; simp; omega)
    omega
  have h2 : (octL (dataL c).length).length ≤ 11 := by
    have := octL_lt 4 (dataL c).length (by have := h.file; simp; omega)
    omega
  simp only [headL, List.length_append, fillL_len h.rest, digL_len h1, digL_len h0, digL_len h2, digL_len (v := 0) (n := 11) (by omega)]
theorem tail_len {c : Ent} {m : Nat} (h : PkC c m) : (tailL c).length = 356 := by
  have h0 : (octL 0).length ≤ 7 := by rw [octL, if_pos (by omega)]; simp
  simp only [tailL, List.length_append, fillL_len h.link, fillL_len h.ahead, digL_len h0, List.length_replicate, List.length_cons, List.length_nil, magicL]
theorem total_lt {c : Ent} {m : Nat} (h : PkC c m) : totalL c < 262144 := by
  have h1 := sumL_le (headL c)
  have h2 := sumL_le (tailL c)
  rw [head_len h] at h1
  rw [tail_len h] at h2
  rw [totalL]; omega
end Go.Proofs.YtjofjcjojgpaeaaGreatDoor

namespace Go.Proofs.YtjofjcjojgpaeaaGreatDoor
open Go.RowKit

theorem entry_len {c : Ent} {m : Nat} (h : PkC c m) : (entryL c).length ≤ 6000 := by
  have h1 := octL_lt 5 (totalL c) (by have := total_lt h; simp; omega)
  have h2 := h.file
  have h3 : padL (dataL c).length < 512 := Nat.mod_lt _ (by omega)
  simp only [entryL, List.length_append, head_len h, tail_len h, digL_len h1, List.length_replicate, List.length_cons, List.length_nil]
  omega
theorem flatE_snoc {cs : List Ent} {k : Nat} {c : Ent} (h : cs[k]? = some c) : ((cs.take (k + 1)).map entryL).flatten = ((cs.take k).map entryL).flatten ++ entryL c := by
  rw [List.take_add_one, h]; simp
end Go.Proofs.YtjofjcjojgpaeaaGreatDoor
