import Derived.Test.YtjofjcjojgpaeaaGreatDoorJChgD
import Derived.Test.YtjofjcjojgpaeaaGreatDoorJUnpC
import Derived.Lib.ConvBytes
namespace Go.Proofs.YtjofjcjojgpaeaaGreatDoor

/-- A text up to its first nought. -/
def upN (l : List UInt8) : List UInt8 := l.takeWhile (· != 0)
/-- So many bytes of a text, from a place on. -/
def fldL (s : List UInt8) (o n : Nat) : List UInt8 := (s.drop o).take n
theorem fld_at {A B s : List UInt8} {o n : Nat} (hs : A ++ B <+: s) (hA : A.length = o) (hB : B.length = n) : fldL s o n = B := by
  obtain ⟨C, rfl⟩ := hs
  subst hA hB
  rw [fldL, List.append_assoc, List.drop_left, List.take_left]
theorem upN_zeros : ∀ (t : List UInt8) (k : Nat), 0 ∉ t → upN (t ++ List.replicate k 0) = t
  | [], k, _ => by cases k <;> simp [upN, List.replicate_succ]
  | x :: t, k, h => by
    have hx : x ≠ 0 := fun e => h (by rw [e]; simp)
    have ih := upN_zeros t k (fun e => h (List.mem_cons_of_mem _ e))
    unfold upN at ih ⊢
    rw [List.cons_append, List.takeWhile_cons_of_pos (by simpa using hx), ih]
theorem upN_fill {t : List UInt8} {n : Nat} (h : 0 ∉ t) : upN (fillL t n) = t := upN_zeros t _ h
theorem dig_nat {k : Nat} (h : k < 8) : (UInt8.ofNat (48 + k)).toNat = 48 + k := by
  rw [UInt8.toNat_ofNat']; omega
theorem octL_oct : ∀ n : Nat, (octL n).all isOct = true
  | n => by
    rw [octL]
    by_cases h : n < 8
    · rw [if_pos h]; simp only [List.all_cons, List.all_nil, Bool.and_true, isOct]; simp; omega
    · rw [if_neg h, List.all_append, octL_oct (n / 8)]
      simp only [List.all_cons, List.all_nil, Bool.and_true, Bool.true_and, isOct]
      have := Nat.mod_lt n (show 0 < 8 by omega)
      simp; omega
theorem octV_snoc (l : List UInt8) (b : UInt8) : octV (l ++ [b]) = octV l * 8 + (b.toNat - 48) := by
  simp [octV]
theorem octV_octL : ∀ n : Nat, octV (octL n) = n
  | n => by
    rw [octL]
    by_cases h : n < 8
    · rw [if_pos h]
      show 0 * 8 + ((UInt8.ofNat (48 + n)).toNat - 48) = n
      rw [dig_nat h]; omega
    · rw [if_neg h, octV_snoc, octV_octL (n / 8), dig_nat (Nat.mod_lt n (by omega))]; omega
theorem octV_zeros (l : List UInt8) : ∀ k : Nat, octV (List.replicate k 48 ++ l) = octV l
  | 0 => by simp
  | k + 1 => by
    rw [List.replicate_succ, List.cons_append, octV, List.foldl_cons]
    exact octV_zeros l k
/-- The digits of a number that fill a field. -/
def digN (v n : Nat) : List UInt8 := List.replicate (n - (octL v).length) 48 ++ octL v
theorem digN_oct (v n : Nat) : (digN v n).all isOct = true := by
  rw [digN, List.all_append, octL_oct, Bool.and_true, List.all_eq_true]
  intro b hb
  obtain ⟨_, rfl⟩ := List.mem_replicate.1 hb
  decide
theorem digN_val (v n : Nat) : octV (digN v n) = v := by rw [digN, octV_zeros, octV_octL]
theorem oct_no0 {l : List UInt8} (h : l.all isOct = true) : (0 : UInt8) ∉ l := fun h0 => by
  have := List.all_eq_true.1 h 0 h0
  revert this; decide
theorem digN_len {v n : Nat} (h : (octL v).length ≤ n) : (digN v n).length = n := by
  rw [digN, List.length_append, List.length_replicate]; omega
theorem digL_eq (v n : Nat) : digL v n = digN v n ++ List.replicate 1 0 := rfl
theorem upN_dig (v n : Nat) : upN (digL v n) = digN v n := by rw [digL_eq]; exact upN_zeros _ _ (oct_no0 (digN_oct v n))

/-! What stands where in the text of a change. -/
theorem oct0 (n : Nat) (h : 0 < n) : (octL 0).length ≤ n := by rw [octL, if_pos (by omega)]; simp; omega
structure EntFld (c : Ent) (s : List UInt8) : Prop where
  name : fldL s 0 100 = fillL (partL (nameL c)).2 100
  mode : fldL s 100 8 = digL c.mode.toNat 7
  size : fldL s 124 12 = digL (dataL c).length 11
  kind : fldL s 156 1 = [flagL c]
  link : fldL s 157 100 = fillL (linkL c) 100
  ahead : fldL s 345 155 = fillL (partL (nameL c)).1 155
  data : fldL s 512 (dataL c).length = dataL c
  len : 512 + (dataL c).length ≤ s.length
theorem ent_fld {c : Ent} (h : PkG c) (r : List UInt8) : EntFld c (entryL c ++ r) := by
  obtain ⟨m, hm⟩ := h.pkc
  have z7 := oct0 7 (by omega)
  have z11 := oct0 11 (by omega)
  have o1 : (octL c.mode.toNat).length ≤ 7 := by
    have := octL_lt 2 c.mode.toNat (by have := hm.mode; have := hm.m512; simp; omega)
    omega
  have o2 : (octL (dataL c).length).length ≤ 11 := by
    have := octL_lt 4 (dataL c).length (by have := hm.file; simp; omega)
    omega
  have o3 : (octL (totalL c)).length ≤ 6 := octL_lt 5 (totalL c) (by have := total_lt hm; simp; omega)
  have l1 := fillL_len hm.rest
  have l2 := fillL_len hm.link
  have l3 := fillL_len hm.ahead
  have d1 := digL_len o1
  have d2 := digL_len o2
  have d3 := digL_len o3
  have d7 := digL_len z7
  have d11 := digL_len z11
  have hh := head_len hm
  have ht := tail_len hm
  refine ⟨?_, ?_, ?_, ?_, ?_, ?_, ?_, ?_⟩
  · exact fld_at (A := []) (by simp only [entryL, headL, tailL, List.append_assoc, List.nil_append, List.prefix_append]) rfl l1
  · exact fld_at (A := fillL (partL (nameL c)).2 100) (by simp only [entryL, headL, tailL, List.append_assoc, List.prefix_append_right_inj, List.prefix_append]) l1 d1
  · exact fld_at (A := fillL (partL (nameL c)).2 100 ++ digL c.mode.toNat 7 ++ digL 0 7 ++ digL 0 7) (by simp only [entryL, headL, tailL, List.append_assoc, List.prefix_append_right_inj, List.prefix_append]) (by simp only [List.length_append, l1, d1, d7]) d2
  · exact fld_at (A := headL c ++ digL (totalL c) 6 ++ [32]) (by simp only [entryL, tailL, List.append_assoc, List.prefix_append_right_inj, List.prefix_append]) (by simp only [List.length_append, hh, d3, List.length_cons, List.length_nil]) rfl
  · exact fld_at (A := headL c ++ digL (totalL c) 6 ++ [32] ++ [flagL c]) (by simp only [entryL, tailL, List.append_assoc, List.prefix_append_right_inj, List.prefix_append]) (by simp only [List.length_append, hh, d3, List.length_cons, List.length_nil]) l2
  · exact fld_at (A := headL c ++ digL (totalL c) 6 ++ [32] ++ [flagL c] ++ fillL (linkL c) 100 ++ magicL ++ List.replicate 64 0 ++ digL 0 7 ++ digL 0 7) (by simp only [entryL, tailL, List.append_assoc, List.prefix_append_right_inj, List.prefix_append]) (by simp only [List.length_append, hh, d3, l2, d7, List.length_replicate, List.length_cons, List.length_nil, magicL]) l3
  · exact fld_at (A := headL c ++ digL (totalL c) 6 ++ [32] ++ tailL c) (by simp only [entryL, List.append_assoc, List.prefix_append_right_inj, List.prefix_append]) (by simp only [List.length_append, hh, d3, ht, List.length_cons, List.length_nil]) rfl
  · simp only [entryL, List.length_append, hh, d3, ht, List.length_cons, List.length_nil]; omega

/-! The name of a change is told by its two fields. -/
theorem part_join {n : List UInt8} (h : n.head? ≠ some 47) : inL (partL n).1 (partL n).2 = n := by
  unfold partL
  by_cases hl : n.length ≤ 100
  · rw [if_pos hl]; rfl
  · rw [if_neg hl]
    cases hs : slashFrom n (n.length - 101) with
    | none => rfl
    | some i =>
      obtain ⟨h1, h2, h3, h4⟩ := slash_some hs
      have h5 : n = n.take i ++ 47 :: n.drop (i + 1) := by
        conv => lhs; rw [← List.take_append_drop i n]
        congr 1
        have e := List.drop_eq_getElem_cons h2
        have hb : n[i] = 47 := by
          have h6 := congrArg (fun x => x[i - (n.length - 101)]?) h3
          simp only [List.getElem?_drop] at h6
          rw [List.getElem?_append_right (by rw [List.length_take, List.length_drop]; omega), List.length_take, List.length_drop, show n.length - 101 + (i - (n.length - 101)) = i by omega, show i - (n.length - 101) - min (i - (n.length - 101)) (n.length - (n.length - 101)) = 0 by omega, List.getElem?_eq_getElem h2] at h6
          simpa using h6
        rw [e, hb]
      show inL (n.take i) (n.drop (i + 1)) = n
      unfold inL
      rw [if_neg, ← h5]
      intro e
      rw [e] at h5
      rw [h5] at h
      simp at h
theorem okC_no {x : UInt8} (h : okC x = true) : x ≠ 0 ∧ x ≠ 47 := by
  constructor <;> (rintro rfl; revert h; decide)
theorem elt_all {x : List UInt8} (h : elt x = true) : ∀ b ∈ x, b ≠ 0 ∧ b ≠ 47 := by
  unfold elt at h
  rw [Bool.and_eq_true] at h
  exact fun b hb => okC_no (List.all_eq_true.1 h.2 b hb)
theorem join_mem {xs : List (List UInt8)} {b : UInt8} (h : b ∈ Lib.join xs [47]) : b = 47 ∨ ∃ x ∈ xs, b ∈ x := by
  cases xs with
  | nil => rw [Lib.join_nil] at h; cases h
  | cons x t =>
    rw [Lib.join_cons, List.mem_append] at h
    rcases h with h | h
    · exact .inr ⟨x, by simp, h⟩
    · unfold Lib.joinTail at h
      obtain ⟨l, hl, hb⟩ := List.mem_flatten.1 h
      obtain ⟨y, hy, rfl⟩ := List.mem_map.1 hl
      rcases List.mem_append.1 hb with hb | hb
      · exact .inl (List.mem_singleton.1 hb)
      · exact .inr ⟨y, List.mem_cons_of_mem _ hy, hb⟩
theorem isP_no0 {l : List UInt8} (h : isP l = true) : (0 : UInt8) ∉ l := by
  by_cases hl : l = []
  · rw [hl]; simp
  · unfold isP at h
    simp only [Bool.and_eq_true] at h
    rw [prt_ne hl] at h
    intro h0
    rw [← spl_join l] at h0
    rcases join_mem h0 with e | ⟨x, hx, hb⟩
    · cases e
    · exact (elt_all (List.all_eq_true.1 h.2 x hx) 0 hb).1 rfl
theorem spl_head47 {l : List UInt8} (h : l.head? = some 47) : [] ∈ spl l := by
  cases l with
  | nil => simp at h
  | cons c r =>
    simp at h
    subst h
    unfold spl
    simp
theorem isP_head {l : List UInt8} (h : isP l = true) : l.head? ≠ some 47 := by
  intro e
  by_cases hl : l = []
  · rw [hl] at e; cases e
  · unfold isP at h
    simp only [Bool.and_eq_true] at h
    rw [prt_ne hl] at h
    have h1 := List.all_eq_true.1 h.2 _ (spl_head47 e)
    revert h1; decide
theorem up_join {p : List UInt8} (hp : isP p = true) (h0 : p ≠ []) : inL (dirOf p) (nameOf p) = p ∧ elt (nameOf p) = true := by
  constructor
  · by_cases hs : 47 ∈ p
    · obtain ⟨a, b, rfl, hb⟩ := last_slash hs
      rw [(dir_at hb).1, (dir_at hb).2, inL, if_neg]
      rintro rfl
      exact isP_head hp rfl
    · rw [(dir_no hs).1, (dir_no hs).2]; rfl
  · have h := prt_up hp h0
    unfold isP at hp
    simp only [Bool.and_eq_true] at hp
    exact List.all_eq_true.1 hp.2 _ (by rw [h]; simp)
theorem mem_dir {p : List UInt8} {b : UInt8} (h : b ∈ dirOf p) : b ∈ p := by
  by_cases hs : 47 ∈ p
  · obtain ⟨a, d, rfl, hb⟩ := last_slash hs
    rw [(dir_at hb).1] at h; simp [h]
  · rw [(dir_no hs).1] at h; cases h
theorem head_dir {p : List UInt8} (h : p.head? ≠ some 47) : (dirOf p).head? ≠ some 47 := by
  by_cases hs : 47 ∈ p
  · obtain ⟨a, d, rfl, hb⟩ := last_slash hs
    rw [(dir_at hb).1]
    cases a with
    | nil => simp
    | cons x t => simpa using h
  · rw [(dir_no hs).1]; simp
theorem inL_no0 {d r : List UInt8} (hd : (0 : UInt8) ∉ d) (hr : (0 : UInt8) ∉ r) : (0 : UInt8) ∉ inL d r := by
  unfold inL
  split
  · exact hr
  · simp [hd, hr]
theorem inL_head {d r : List UInt8} (hd : d.head? ≠ some 47) (hr : r.head? ≠ some 47) : (inL d r).head? ≠ some 47 := by
  unfold inL
  split
  · exact hr
  · cases d with
    | nil => exact absurd rfl ‹_›
    | cons x t => simpa using hd
theorem name_good {c : Ent} (h : chOk c = true) : (0 : UInt8) ∉ nameL c ∧ (nameL c).head? ≠ some 47 := by
  have hp := (chOk_path h).1
  have h0 := isP_no0 hp
  have hh := isP_head hp
  have hne := (chOk_path h).2
  unfold nameL
  split
  · rename_i hk
    refine ⟨by simp [h0], ?_⟩
    cases he : c.path.data.toList with
    | nil => have := hne he; omega
    | cons x t => rw [he] at hh; simpa using hh
  · split
    · rename_i hk
      have hpn : c.path.data.toList ≠ [] := fun e => by have := hne e; omega
      have hn := elt_all (up_join hp hpn).2
      exact ⟨inL_no0 (fun e => h0 (mem_dir e)) (by simp only [List.mem_append, not_or]; exact ⟨by decide, fun e => (hn 0 e).1 rfl⟩), inL_head (head_dir hh) (by simp [whL])⟩
    · split
      · exact ⟨inL_no0 h0 (by decide), inL_head hh (by decide)⟩
      · exact ⟨h0, hh⟩
theorem part_no0 {n : List UInt8} (h : (0 : UInt8) ∉ n) : (0 : UInt8) ∉ (partL n).1 ∧ (0 : UInt8) ∉ (partL n).2 := by
  unfold partL
  split
  · exact ⟨by simp, h⟩
  · split
    · exact ⟨fun e => h (List.mem_of_mem_take e), fun e => h (List.mem_of_mem_drop e)⟩
    · exact ⟨by simp, h⟩
/-- The name that a text tells. -/
def nmL (s : List UInt8) : List UInt8 := inL (upN (fldL s 345 155)) (upN (fldL s 0 100))
theorem nm_back {c : Ent} (h : chOk c = true) (r : List UInt8) : nmL (entryL c ++ r) = nameL c := by
  have hf := ent_fld (pkg_of h) r
  have hg := name_good h
  have hn := part_no0 hg.1
  rw [nmL, hf.ahead, hf.name, upN_fill hn.1, upN_fill hn.2, part_join hg.2]
theorem link_no0 {c : Ent} (h : chOk c = true) : (0 : UInt8) ∉ linkL c := by
  unfold linkL
  split
  · rename_i hk
    unfold chOk at h
    rw [if_neg (by omega)] at h
    have hg := (ent_parts h).2.2
    unfold goodE at hg
    rw [if_neg (by omega), if_neg (by omega), if_pos hk] at hg
    simp only [tgt, Bool.and_eq_true] at hg
    intro e
    have := List.all_eq_true.1 hg.2.1.1 0 e
    revert this; decide
  · simp
/-- What a name of a File or a mark tells: the path and the kind. -/
def unmL (n : List UInt8) : List UInt8 × Int :=
  if nameOf n = opqL then (dirOf n, 5)
  else if Lib.hasPrefix (nameOf n) whL then (inL (dirOf n) ((nameOf n).drop 4), 4)
  else (n, 2)
theorem dir_in {d b : List UInt8} (h : (47 : UInt8) ∉ b) : dirOf (inL d b) = d ∧ nameOf (inL d b) = b := by
  unfold inL
  split
  · rename_i e; rw [e]; exact dir_no h
  · exact dir_at h
theorem unm_back {c : Ent} (h : chOk c = true) (hk : c.kind = 2 ∨ c.kind = 4 ∨ c.kind = 5) : unmL (nameL c) = (c.path.data.toList, c.kind) := by
  have hp := (chOk_path h).1
  have hne := (chOk_path h).2
  have hh : ∀ {x : List UInt8}, elt x = true → Lib.hasPrefix x whL = false := fun {x} hx => by
    unfold elt hdr at hx
    simp only [Bool.and_eq_true, Bool.not_eq_true', Bool.or_eq_false_iff] at hx
    exact hx.1.2
  rcases hk with hk | hk | hk
  · have hpn : c.path.data.toList ≠ [] := fun e => by have := hne e; omega
    have he := (up_join hp hpn).2
    have hn : nameL c = c.path.data.toList := by simp [nameL, hk]
    have h1 : nameOf c.path.data.toList ≠ opqL := fun e => by rw [e] at he; revert he; decide
    rw [hn, unmL, if_neg h1, hh he, hk]; rfl
  · have hpn : c.path.data.toList ≠ [] := fun e => by have := hne e; omega
    obtain ⟨hj, he⟩ := up_join hp hpn
    have hn : nameL c = inL (dirOf c.path.data.toList) (whL ++ nameOf c.path.data.toList) := by simp [nameL, hk]
    have h47 : (47 : UInt8) ∉ whL ++ nameOf c.path.data.toList := by
      simp only [List.mem_append, not_or]; exact ⟨by decide, fun e => (elt_all he 47 e).2 rfl⟩
    have h1 : whL ++ nameOf c.path.data.toList ≠ opqL := fun e => by
      have e2 : nameOf c.path.data.toList = opqL.drop 4 := by rw [← e]; rfl
      rw [e2] at he; revert he; decide
    have h2 : Lib.hasPrefix (whL ++ nameOf c.path.data.toList) whL = true := by
      rw [Lib.hasPrefix, List.isPrefixOf_iff_prefix]; exact List.prefix_append _ _
    have h3 : (whL ++ nameOf c.path.data.toList).drop 4 = nameOf c.path.data.toList := rfl
    rw [hn, unmL, (dir_in h47).1, (dir_in h47).2, if_neg h1, h2, h3, hj, hk]; rfl
  · have hn : nameL c = inL c.path.data.toList opqL := by simp [nameL, hk]
    have h47 : (47 : UInt8) ∉ opqL := by decide
    rw [hn, unmL, (dir_in h47).1, (dir_in h47).2, if_pos rfl, hk]
end Go.Proofs.YtjofjcjojgpaeaaGreatDoor

namespace Go.Proofs.YtjofjcjojgpaeaaGreatDoor
open Go.RowKit

theorem index_zero (a b : List UInt8) (h : (0 : UInt8) ∉ a) : Lib.index (a ++ 0 :: b) [0] = (a.length : Int) := by
  induction a with
  | nil => rw [List.nil_append, Lib.index]; simp [List.isPrefixOf]
  | cons c r ih =>
    simp only [List.mem_cons, not_or] at h
    have hp : List.isPrefixOf [0] (c :: (r ++ 0 :: b)) = false := by simp [List.isPrefixOf, h.1]
    rw [List.cons_append, Lib.index, hp, ih h.2]
    have hne : ((r.length : Int) == -1) = false := by simp
    simp [hne]
theorem index_none (a : List UInt8) (h : (0 : UInt8) ∉ a) : Lib.index a [0] = -1 := by
  induction a with
  | nil => rfl
  | cons c r ih =>
    simp only [List.mem_cons, not_or] at h
    have hp : List.isPrefixOf [0] (c :: r) = false := by simp [List.isPrefixOf, h.1]
    rw [Lib.index, hp, ih h.2]; rfl
theorem upN_parts (l : List UInt8) : (0 ∉ l ∧ upN l = l) ∨ ∃ b, l = upN l ++ 0 :: b ∧ 0 ∉ upN l := by
  induction l with
  | nil => exact .inl ⟨by simp, rfl⟩
  | cons c r ih =>
    by_cases hc : c = 0
    · subst hc
      exact .inr ⟨r, by simp [upN], by simp [upN]⟩
    · have e : upN (c :: r) = c :: upN r := by
        unfold upN; rw [List.takeWhile_cons_of_pos (by simpa using hc)]
      rcases ih with ⟨h1, h2⟩ | ⟨b, h1, h2⟩
      · exact .inl ⟨by simp [h1, Ne.symm hc], by rw [e, h2]⟩
      · exact .inr ⟨b, by rw [e, List.cons_append, ← h1], by rw [e]; simp [h2, Ne.symm hc]⟩
theorem cut_zero (l : List UInt8) : (Lib.cut l [0]).1 = upN l := by
  rcases upN_parts l with ⟨h1, h2⟩ | ⟨b, h1, h2⟩
  · rw [Lib.cut, index_none l h1, if_neg (by omega), h2]
  · conv => lhs; rw [h1]
    rw [Lib.cut, index_zero _ _ h2, if_pos (by omega)]; simp
theorem fld_cells {w : World} {b o n : Nat} {xs : List UInt8} (h : Blk w b xs) (hn : o + n ≤ 512) : (convert 41 9 (.slice (some ⟨b, o, none⟩) n (512 - o))).run Tryz.prog w = .ok (.string (bt (fldL xs o n))) w := by
  have hl : (fldL xs o n).length = n := by rw [fldL, List.length_take, List.length_drop, h.2]; omega
  have := run_convert_bytes_back (P := Tryz.prog) w 41 9 5 ⟨b, o, none⟩ (512 - o) (fldL xs o n) Tryz.underlying41 Tryz.underlying5 Tryz.underlying9 (fun j hj => by
    rw [Addr.add_lit]
    rw [hl] at hj
    have hx : o + j < xs.length := by rw [h.2]; omega
    have := blk_cell h hx
    rw [this]
    congr 3
    simp only [fldL, List.getElem_take, List.getElem_drop])
  rw [hl] at this
  exact this
set_option maxRecDepth 10000 in
theorem text_any (b o n : Nat) (xs : List UInt8) (m : Int) (w : World) (hk : Blk w b xs) (h : o + n ≤ 512) (h0 : 0 < n) (hm : w.cell? ⟨14, 0, none⟩ = some (.int .i64 m)) :
    Calls Tryz.prog 140 #[.pointer (some ⟨b, 0, none⟩), .agg #[.int .i64 (o : Nat), .int .i64 (n : Nat)]] w fun ev w' => ∃ s : ByteArray, ev = .returned (.string s) ∧ Hid (s = bt (upN (fldL xs o n))) ∧ Below w.heap.size w w' := by
  have HK := hide hk
  have HM := hide hm
  have hb0 : Below w.heap.size w (w.alloc (.cells #[.int .i64 (o : Nat), .int .i64 (n : Nat)] 168)) := (Below.refl _ _).alloc (Nat.le_refl _) _
  have hz : (bt (fldL xs o n)).size < 4294967281 := by rw [bt_size, fldL, List.length_take]; omega
  have HZ := hide hz
  clear hk hm hz
  go_enter Tryz.func140, Tryz.ntmps140
  go_wp2_with (first
    | (go_at_call 135; refine (bytes_any b o n _ h h0).mono ?_; rintro ev w1 ⟨rfl, hb1⟩; have hB1 := hb0.trans (hb1.mono hb0.size); have hcv := fld_cells ((unhide HK).below hB1) h; have hm1 := cell_later hB1 (unhide HM); obtain ⟨S, hS⟩ : ∃ S, S = bt (fldL xs o n) := ⟨_, rfl⟩; rw [← hS] at hcv; have HS := hide hS; clear hS)
    | (go_at_call 156; refine (Tryz.strings_Cut S ⟨#[0]⟩ m w1 (by rw [unhide HS]; exact unhide HZ) hm1).mono ?_; rintro ev w2 ⟨rfl, nn, hw2⟩))
  go_ret
  refine ⟨_, rfl, hide ?_, ?_⟩
  · show (⟨(Lib.cut S.data.toList [0]).1.toArray⟩ : ByteArray) = _
    rw [cut_zero, unhide HS, bt_list]; rfl
  · exact below_drewN2 nn hB1
end Go.Proofs.YtjofjcjojgpaeaaGreatDoor
