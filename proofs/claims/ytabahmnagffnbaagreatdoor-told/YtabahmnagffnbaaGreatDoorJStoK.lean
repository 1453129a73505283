import Derived.Test.YtabahmnagffnbaaGreatDoorJIter
import Derived.Shelf.Strings.Search1
namespace Go.Proofs.YtabahmnagffnbaaGreatDoor
open Go.RowKit Go.Maps Go.Sort Go.Shelf

theorem setCell_id {w : World} {g i : Nat} {v : Value} (h : w.cell? ⟨g, i, none⟩ = some v) : w.setCell ⟨g, i, none⟩ v = w := by
  have e : (w.setCell ⟨g, i, none⟩ v).heap = w.heap := by
    apply Array.ext_getElem?
    intro k
    by_cases hk : k = g
    · subst hk
      cases ho : w.heap[k]? with
      | none =>
        have : ¬ k < w.heap.size := fun hlt => by rw [Array.getElem?_eq_getElem hlt] at ho; cases ho
        rw [Array.getElem?_eq_none_iff.2 (by rw [World.size_setCell]; omega)]
      | some o =>
        cases o with
        | cells c t fz =>
          have hc : c[i]? = some v := by simpa [World.cell?, ho] using h
          have hs : c.setIfInBounds i v = c := by
            apply Array.ext_getElem?
            intro j
            rw [Array.getElem?_setIfInBounds]
            split
            · rename_i hij
              subst hij
              split
              · exact hc.symm
              · rename_i hn
                rw [Array.getElem?_eq_none_iff.2 (by omega)]
            · rfl
          simp [World.setCell, Array.getElem?_modify, ho, hs]
        | _ => simp [World.setCell, Array.getElem?_modify, ho]
    · exact Below.heap_setCell w ⟨g, i, none⟩ v k hk
  show { w with heap := (w.setCell ⟨g, i, none⟩ v).heap } = w
  rw [e]
theorem acC_get : ∀ {l : List Ac} {k : Nat} {a : Ac}, l[k]? = some a → (acC l)[k * 4]? = some (.int .i64 a.what) ∧ (acC l)[k * 4 + 1]? = some (.string a.name) ∧ (acC l)[k * 4 + 2]? = some (.string a.dest) ∧ (acC l)[k * 4 + 3]? = some (.string a.data)
  | [], _, _, h => by simp at h
  | x :: r, 0, e, h => by
    simp at h; subst h
    simp [acC, Ac.cells]
  | x :: r, k + 1, e, h => by
    have h' : r[k]? = some e := by simpa using h
    have := acC_get h'
    have e1 : acC (x :: r) = x.cells ++ acC r := by simp [acC]
    have e2 : x.cells.length = 4 := rfl
    rw [e1, show (k + 1) * 4 = 4 + k * 4 from by omega, show 4 + k * 4 + 1 = 4 + (k * 4 + 1) from by omega, show 4 + k * 4 + 2 = 4 + (k * 4 + 2) from by omega, show 4 + k * 4 + 3 = 4 + (k * 4 + 3) from by omega]
    rw [List.getElem?_append_right (by omega), List.getElem?_append_right (by omega), List.getElem?_append_right (by omega), List.getElem?_append_right (by omega)]
    simp only [e2, Nat.add_sub_cancel_left]
    exact this
/-- A row of acts. -/
def ARow (w : World) (ao : Option Addr) (l : List Ac) : Prop := ∀ k a, l[k]? = some a → ∃ g, ao = some ⟨g, 0, none⟩ ∧ (∃ cur, w.heap[g]? = some (.cells cur 68 (0, 0))) ∧ w.cell? ⟨g, k * 4, none⟩ = some (.int .i64 a.what) ∧ w.cell? ⟨g, k * 4 + 1, none⟩ = some (.string a.name) ∧ w.cell? ⟨g, k * 4 + 2, none⟩ = some (.string a.dest) ∧ w.cell? ⟨g, k * 4 + 3, none⟩ = some (.string a.data)
theorem arow_of {w : World} {B : Nat} {v : Value} {l : List Ac} (h : w.ownsRow B 68 4 v l.length (acC l)) : ∃ ao cap, v = .slice ao l.length cap ∧ ARow w ao l ∧ l.length ≤ cap := by
  rcases h.2 with ⟨rfl, h0⟩ | ⟨g, cap, cur, rfl, hb, hg, hnc, _⟩
  · have : l = [] := List.length_eq_zero_iff.1 h0
    subst this
    exact ⟨none, 0, rfl, fun k b hk => by simp at hk, Nat.le_refl _⟩
  · refine ⟨some ⟨g, 0, none⟩, cap, rfl, fun k b hk => ?_, hnc⟩
    have hk' : k < l.length := (List.getElem?_eq_some_iff.1 hk).1
    obtain ⟨h1, h2, h3, h4⟩ := acC_get hk
    exact ⟨g, rfl, ⟨cur, hg⟩, by rw [World.ownsRow.cellAt h _ (by omega), h1], by rw [World.ownsRow.cellAt h _ (by omega), h2], by rw [World.ownsRow.cellAt h _ (by omega), h3], by rw [World.ownsRow.cellAt h _ (by omega), h4]⟩
theorem ARow.below {w w' : World} {ao : Option Addr} {l : List Ac} (h : ARow w ao l) (hb : Below w.heap.size w w') : ARow w' ao l := fun k b hk => by
  obtain ⟨g, e, ⟨cur, hc⟩, h1, h2, h3, h4⟩ := h k b hk
  exact ⟨g, e, ⟨cur, (hb.block g (Array.getElem?_eq_some_iff.1 hc).1).trans hc⟩, cell_later hb h1, cell_later hb h2, cell_later hb h3, cell_later hb h4⟩
set_option maxHeartbeats 1000000 in
set_option maxRecDepth 100000 in
theorem acts_any (sb mb : Nat) (v : Value) (L : List Blb) (q : Int) (A : List Ac) (w : World) (h : PSt w sb mb v L q A) (hA : A.length ≤ 1099511627) (hs : ∀ a ∈ A, a.name.size ≤ 1073741824 ∧ a.dest.size ≤ 1073741824 ∧ a.data.size ≤ 1073741824) :
    Calls Tryz.prog 19 #[.pointer (some ⟨sb, 0, none⟩)] w fun ev w' => ev = .returned v ∧ Below (w.setCell ⟨sb, 2, none⟩ (.slice none 0 0)).heap.size (w.setCell ⟨sb, 2, none⟩ (.slice none 0 0)) w' := by
  have c2 : w.cell? ⟨sb, 2, none⟩ = some v := cell_of_row _ _ 2 _ _ _ h.cells
  have f2 : w.frozen? ⟨sb, 2, none⟩ = false := by simp [World.frozen?, h.cells]
  have hrow : (w.setCell ⟨sb, 2, none⟩ (.slice none 0 0)).ownsRow 0 68 4 v A.length (acC A) := row_turn h.row fun k hk => Below.heap_setCell _ _ _ _ (fun e => h.sb_row (hk.trans (congrArg some e)))
  obtain ⟨ao, cap, rfl, hA1, _⟩ := arow_of hrow
  have HS := hide hs
  obtain ⟨n, hn⟩ : ∃ n, n = A.length := ⟨_, rfl⟩
  rw [← hn] at c2 hA ⊢
  have HN := hide hn
  obtain ⟨W0, hW0⟩ : ∃ W0, W0 = w.setCell ⟨sb, 2, none⟩ (.slice none 0 0) := ⟨_, rfl⟩
  rw [← hW0] at hA1 ⊢
  clear h hs hn hrow
  go_enter Tryz.func19, Tryz.ntmps19
  go_upto_region 3 with fail
  rw [← hW0]
  clear hW0 c2 f2
  go_wp2
  go_loopw [15] (fun i wr => ∃ (k : Nat), k ≤ n ∧ i = .int .i64 k ∧ Below W0.heap.size W0 wr) (fun i _ => n - (intOf i).toNat)
  case atStart => exact ⟨0, by omega, rfl, Below.refl _ _⟩
  case round =>
    obtain ⟨k, hk, rfl, hb⟩ := hrel
    by_cases hlt : k < n
    · obtain ⟨e, he⟩ : ∃ e, A[k]? = some e := ⟨A[k]'(by have := unhide HN; omega), List.getElem?_eq_getElem (by have := unhide HN; omega)⟩
      obtain ⟨g, rfl, ⟨cur, hc⟩, d0, d1, d2, d3⟩ := (hA1.below hb) k e he
      obtain ⟨s1, s2, s3⟩ := unhide HS e (List.mem_of_getElem? he)
      have i1 : (0 : Int) ≤ (k : Int) := by omega
      have i2 : (k : Int) < (n : Int) := by omega
      clear he
      go_upto_region 6 with fail
      obtain ⟨W4, hW4⟩ : ∃ W4, W4 = wr.alloc (.cells #[.int .i64 e.what, .string e.name, .string e.dest, .string e.data] 68) := ⟨_, rfl⟩
      have hbx : W4.heap[wr.heap.size]? = some (.cells #[.int .i64 e.what, .string e.name, .string e.dest, .string e.data] 68 (0, 0)) := by rw [hW4]; exact heap_alloc_new _ _
      have hB4 : Below wr.heap.size wr W4 := by rw [hW4]; exact (Below.refl _ _).alloc (Nat.le_refl _) _
      rw [← hW4]
      have b1 : W4.cell? ⟨wr.heap.size, 1, none⟩ = some (.string e.name) := cell_of_row _ _ 1 _ _ _ hbx
      clear hW4
      go_upto_region 7 with (go_at_call 26; refine (clone_at e.name _ s1).mono ?_; rintro ev w5 ⟨rfl, hb5⟩; have hB5 := hB4.trans (hb5.mono hB4.size); have hc5 := keepD_below hB5 hc; have e1 := cell_later hB5 d1; have g1 := frzD hc5 (k * 4 + 1))
      rw [setCell_id e1]
      have hbx5 := keepD_below hb5 hbx
      have b2 : w5.cell? ⟨wr.heap.size, 2, none⟩ = some (.string e.dest) := cell_of_row _ _ 2 _ _ _ hbx5
      clear b1 e1 g1 hc5 hb5 hbx hB4
      go_upto_region 8 with (go_at_call 26; refine (clone_at e.dest _ s2).mono ?_; rintro ev w6 ⟨rfl, hb6⟩; have hB6 := hB5.trans (hb6.mono hB5.size); have hc6 := keepD_below hB6 hc; have e2 := cell_later hB6 d2; have g2 := frzD hc6 (k * 4 + 2))
      rw [setCell_id e2]
      have hbx6 := keepD_below hb6 hbx5
      have b3 : w6.cell? ⟨wr.heap.size, 3, none⟩ = some (.string e.data) := cell_of_row _ _ 3 _ _ _ hbx6
      clear b2 e2 g2 hc6 hb6 hbx5 hB5
      go_upto_region 9 with (go_at_call 26; refine (clone_at e.data _ s3).mono ?_; rintro ev w7 ⟨rfl, hb7⟩; have hB7 := hB6.trans (hb7.mono hB6.size); have hc7 := keepD_below hB7 hc; have e3 := cell_later hB7 d3; have g3 := frzD hc7 (k * 4 + 3))
      rw [setCell_id e3]
      clear b3 e3 g3 hc7 hb7 hbx6 hB6
      go_wp2_with fail
      go_roundw
      case rel =>
        have R := hb.trans (hB7.mono hb.size)
        first
          | exact ⟨k + 1, by omega, by go_num, R⟩
          | ((repeat apply Exists.intro); exact ⟨⟨k + 1, by omega, by go_num, R⟩, rfl⟩)
      case measure => simp [intOf]; omega
    · go_wp2_with fail
      go_ret
      exact ⟨rfl, hb⟩
end Go.Proofs.YtabahmnagffnbaaGreatDoor

namespace Go.Proofs
open Go.Shelf
def Tryz.lays217_ren : Go.Shelf.Ren := ⟨fun | 217 => 108 | 266 => 125 | n => n, fun | 9 => 9 | 3 => 3 | 5 => 5 | n => n, fun | n => n⟩
theorem Tryz.lays217 : Go.Proofs.Lays.n217 Tryz.prog Tryz.lays217_ren := {
  mixed := by kernel_rfl
  f217 := Tryz.func108.trans (congrArg some (by kernel_rfl))
  f266 := Tryz.func125.trans (congrArg some (by kernel_rfl))
  t3 := Tryz.underlying3
  a3 := Tryz.isAgg3
  z3 := Tryz.sizeOf3
  v3 := Tryz.zeroValue3
  t5 := Tryz.underlying5
  a5 := Tryz.isAgg5
  z5 := Tryz.sizeOf5
  v5 := Tryz.zeroValue5
  t9 := Tryz.underlying9
  a9 := Tryz.isAgg9
  z9 := Tryz.sizeOf9
  v9 := Tryz.zeroValue9 }
open Go.RowKit in
theorem Tryz.stringslite_IndexByte (s : ByteArray) (c : Int) (w : World) :
    Calls Tryz.prog 108 #[.string s, .int .u8 c] w fun e w' => e = .returned (.int .i64 (Lib.indexByte s.data.toList c.toNat.toUInt8)) ∧ w' = w := Any.stringslite_IndexByte Tryz.lays217 s c w
end Go.Proofs
namespace Go.Proofs.YtabahmnagffnbaaGreatDoor
open Go.RowKit Go.Maps Go.Sort Go.Shelf

theorem indexByte_any (s : ByteArray) (c : Int) (w : World) :
    Calls Tryz.prog 91 #[.string s, .int .u8 c] w fun e w' => e = .returned (.int .i64 (Lib.indexByte s.data.toList c.toNat.toUInt8)) ∧ w' = w := by
  go_enter Tryz.func91, Tryz.ntmps91
  go_wp2_with (go_at_call 108; refine (Tryz.stringslite_IndexByte s c _).mono ?_; rintro ev w1 ⟨rfl, rfl⟩)
  go_ret
  exact ⟨rfl, rfl⟩
/-- A digit of a digest. -/
def hexB (c : UInt8) : Bool := decide (48 ≤ c.toNat ∧ c.toNat ≤ 57) || decide (97 ≤ c.toNat ∧ c.toNat ≤ 102)
def isDig (l : List UInt8) : Bool := decide (l.length = 64) && l.all hexB
abbrev hexD : ByteArray := ⟨#[48, 49, 50, 51, 52, 53, 54, 55, 56, 57, 97, 98, 99, 100, 101, 102]⟩
theorem index_no (l : List UInt8) (c : UInt8) : Lib.indexByte l c = -1 ↔ c ∉ l := by
  induction l with
  | nil => simp [Lib.indexByte]
  | cons b r ih =>
    have := Lib.indexByte_ge r c
    unfold Lib.indexByte
    by_cases h : b = c
    · subst h; simp
    · by_cases h2 : Lib.indexByte r c = -1
      · have h3 := ih.1 h2
        simp [h, h2, h3, Ne.symm h]
      · have h3 : c ∈ r := Decidable.byContradiction fun hn => h2 (ih.2 hn)
        simp [h, h2, h3]
        omega
set_option maxRecDepth 100000 in
theorem hex_all : ∀ n : Fin 256, hexB (UInt8.ofNat n.val) = [48, 49, 50, 51, 52, 53, 54, 55, 56, 57, 97, 98, 99, 100, 101, 102].contains (UInt8.ofNat n.val) := by decide +kernel
theorem hex_mem (c : UInt8) : hexB c = [48, 49, 50, 51, 52, 53, 54, 55, 56, 57, 97, 98, 99, 100, 101, 102].contains c := by
  have h := hex_all ⟨c.toNat, c.toNat_lt⟩
  simpa using h
theorem hex_index (c : UInt8) : (Lib.indexByte hexD.data.toList c < 0) ↔ hexB c = false := by
  rw [hex_mem]
  have h1 := Lib.indexByte_ge hexD.data.toList c
  have h2 := index_no hexD.data.toList c
  constructor
  · intro h
    have := h2.1 (by omega)
    cases hc : [48, 49, 50, 51, 52, 53, 54, 55, 56, 57, 97, 98, 99, 100, 101, 102].contains c
    · rfl
    · exact absurd (List.contains_iff_mem.1 hc) this
  · intro h
    have : c ∉ hexD.data.toList := fun hm => by
      rw [List.contains_iff_mem.2 hm] at h; cases h
    rw [h2.2 this]; omega
theorem dig_bad (s : ByteArray) (k : Nat) (hk : k < s.size) (h : hexB s[k] = false) : isDig s.data.toList = false := by
  have : s.data.toList.all hexB = false := List.all_eq_false.2 ⟨s[k], Array.getElem_mem_toList _, by simp [h]⟩
  rw [isDig, this, Bool.and_false]
theorem dig_snoc (s : ByteArray) (k : Nat) (hk : k < s.size) (h : (s.data.toList.take k).all hexB = true) (h2 : hexB s[k] = true) : (s.data.toList.take (k + 1)).all hexB = true := by
  have e : s.data.toList[k]? = some s[k] := by
    rw [List.getElem?_eq_getElem (by simpa using hk)]; rfl
  rw [List.take_add_one, e, List.all_append, h]
  simp [h2]
theorem dig_all (s : ByteArray) (k : Nat) (hk : s.size ≤ k) (h : (s.data.toList.take k).all hexB = true) : s.data.toList.all hexB = true := by
  rwa [List.take_of_length_le (by rw [← Lib.size_eq]; exact hk)] at h
theorem u8_back (c : UInt8) : ((c.toNat : Int)).toNat.toUInt8 = c := by simp
set_option maxRecDepth 100000 in
theorem isDig_any (s : ByteArray) (w : World) : Calls Tryz.prog 73 #[.string s] w fun e w' => e = .returned (.bool (isDig s.data.toList)) ∧ w' = w := by
  have hl : s.data.toList.length = s.size := (Lib.size_eq s).symm
  by_cases h64 : s.size = 64
  · have H64 := hide h64
    have hi : ((s.size : Int) != 64) = false := by simp [h64]
    go_enter Tryz.func73, Tryz.ntmps73
    go_wp2
    go_loop [9] (fun i => ∃ k : Nat, k ≤ s.size ∧ i = .int .i64 k ∧ Hid ((s.data.toList.take k).all hexB = true)) (fun i => s.size - (intOf i).toNat)
    case atStart => exact ⟨0, Nat.zero_le _, rfl, hide rfl⟩
    case round =>
      obtain ⟨k, hk, rfl, A⟩ := hrel
      by_cases hlt : k < s.size
      · cases hok : hexB s[k]
        · have B := hide (dig_bad s k hlt hok)
          have hx : Lib.indexByte [48, 49, 50, 51, 52, 53, 54, 55, 56, 57, 97, 98, 99, 100, 101, 102] s[k] < 0 := (hex_index s[k]).2 hok
          go_wp2_with (go_at_call 91; refine (indexByte_any _ _ _).mono ?_; rintro e w' ⟨rfl, rfl⟩)
          go_ret
          exact ⟨by rw [unhide B]; rfl, rfl⟩
        · have B := hide (dig_snoc s k hlt (unhide A) hok)
          have hx : ¬ (Lib.indexByte [48, 49, 50, 51, 52, 53, 54, 55, 56, 57, 97, 98, 99, 100, 101, 102] s[k] < 0) := fun hh => by rw [(hex_index s[k]).1 hh] at hok; cases hok
          go_wp2_with (go_at_call 91; refine (indexByte_any _ _ _).mono ?_; rintro e w' ⟨rfl, rfl⟩)
          go_round
          case rel => exact ⟨k + 1, by omega, by go_num, B⟩
          case measure => simp [intOf]; omega
      · have B := hide (dig_all s k (by omega) (unhide A))
        go_wp2
        go_ret
        exact ⟨by rw [isDig, unhide B, hl, unhide H64]; rfl, rfl⟩
  · have hi : ((s.size : Int) != 64) = true := by simp; omega
    have hv : isDig s.data.toList = false := by rw [isDig, hl]; simp [h64]
    rw [hv]
    go_enter Tryz.func73, Tryz.ntmps73
    go_wp2
    go_ret
    exact ⟨rfl, rfl⟩
end Go.Proofs.YtabahmnagffnbaaGreatDoor

namespace Go.Proofs.YtabahmnagffnbaaGreatDoor
open Go.RowKit Go.Maps Go.Sort Go.Shelf

/-- May a file be called so? -/
def isN (l : List UInt8) : Bool := match l with
  | x :: y :: r => (x == 98 || x == 99 || x == 116) && y == 47 && isDig r
  | _ => false
theorem isN_of {l : List UInt8} {x : UInt8} (hx : x = 98 ∨ x = 99 ∨ x = 116) (h : Lib.hasPrefix l [x, 47] = true) : isN l = isDig (l.drop 2) := by
  match l, h with
  | a :: b :: r, h =>
    simp [Lib.hasPrefix] at h
    obtain ⟨rfl, rfl⟩ := h
    rcases hx with rfl | rfl | rfl <;> simp [isN]
  | [a], h => simp [Lib.hasPrefix] at h
  | [], h => simp [Lib.hasPrefix] at h
theorem isN_no {l : List UInt8} (h1 : Lib.hasPrefix l [98, 47] = false) (h2 : Lib.hasPrefix l [99, 47] = false) (h3 : Lib.hasPrefix l [116, 47] = false) : isN l = false := by
  match l with
  | a :: b :: r =>
    unfold isN
    cases hy : (b == 47)
    · show ((a == 98 || a == 99 || a == 116) && (b == 47) && isDig r) = false
      rw [hy]; simp
    · have hb : b = 47 := by simpa using hy
      subst hb
      have e1 : (a == 98) = false := by cases h : (a == 98); rfl; exact absurd h1 (by simp [Lib.hasPrefix, (by simpa using h : a = 98)])
      have e2 : (a == 99) = false := by cases h : (a == 99); rfl; exact absurd h2 (by simp [Lib.hasPrefix, (by simpa using h : a = 99)])
      have e3 : (a == 116) = false := by cases h : (a == 116); rfl; exact absurd h3 (by simp [Lib.hasPrefix, (by simpa using h : a = 116)])
      simp [e1, e2, e3]
  | [a] => rfl
  | [] => rfl
set_option maxRecDepth 100000 in
theorem cutP_any (s p : ByteArray) (w : World) (_ : s.size ≤ 1073741824) :
    Calls Tryz.prog 72 #[.string s, .string p] w fun e w' => e = .returned (if Lib.hasPrefix s.data.toList p.data.toList then .tuple #[.string (s.extract p.size s.size), .bool true] else .tuple #[.string s, .bool false]) ∧ w' = w := by
  have hH : Calls Tryz.prog 76 #[.string s, .string p] w fun e w' => e = .returned (.bool (Lib.hasPrefix s.data.toList p.data.toList)) ∧ w' = w := by
    have H := hide (Lib.hasPrefix_raw s p)
    go_enter Tryz.func76, Tryz.ntmps76
    go_wp2
    · go_ret
      exact ⟨ret_bool (by rw [← unhide H]; simp [*]), rfl⟩
    · go_ret
      exact ⟨ret_bool (by rw [← unhide H]; simp [*]), rfl⟩
  have hC : Calls Tryz.prog 90 #[.string s, .string p] w fun e w' => e = .returned (if Lib.hasPrefix s.data.toList p.data.toList then .tuple #[.string (s.extract p.size s.size), .bool true] else .tuple #[.string s, .bool false]) ∧ w' = w := by
    cases hp : Lib.hasPrefix s.data.toList p.data.toList with
    | true =>
      rw [hp] at hH
      have hle : p.size ≤ s.size := by
        have := (List.isPrefixOf_iff_prefix.1 hp).length_le
        rw [← Lib.size_eq, ← Lib.size_eq] at this
        exact this
      have i1 : (p.size : Int) ≤ (s.size : Int) := by omega
      have i0 : (0 : Int) ≤ (p.size : Int) := by omega
      clear hp
      go_enter Tryz.func90, Tryz.ntmps90
      go_wp2_with (go_at_call 76; refine hH.mono ?_; clear hH; rintro ev w1 ⟨rfl, rfl⟩)
      go_ret2
      exact ⟨rfl, rfl⟩
    | false =>
      rw [hp] at hH
      clear hp
      go_enter Tryz.func90, Tryz.ntmps90
      go_wp2_with (go_at_call 76; refine hH.mono ?_; clear hH; rintro ev w1 ⟨rfl, rfl⟩)
      go_ret2
      exact ⟨rfl, rfl⟩
  clear hH
  cases hp : Lib.hasPrefix s.data.toList p.data.toList with
  | true =>
    rw [hp] at hC
    clear hp
    go_enter Tryz.func72, Tryz.ntmps72
    go_wp2_with (go_at_call 90; refine hC.mono ?_; clear hC; rintro ev w1 ⟨rfl, rfl⟩)
    go_ret2
    exact ⟨rfl, rfl⟩
  | false =>
    rw [hp] at hC
    clear hp
    go_enter Tryz.func72, Tryz.ntmps72
    go_wp2_with (go_at_call 90; refine hC.mono ?_; clear hC; rintro ev w1 ⟨rfl, rfl⟩)
    go_ret2
    exact ⟨rfl, rfl⟩
/-- What a name may begin with. -/
def begN (k : Nat) : ByteArray := if k = 0 then ⟨#[98, 47]⟩ else if k = 1 then ⟨#[99, 47]⟩ else ⟨#[116, 47]⟩
theorem take2 (s : ByteArray) : List.take (s.size - 2) (s.data.toList.drop 2) = s.data.toList.drop 2 := List.take_of_length_le (by rw [List.length_drop, ← Lib.size_eq]; omega)
theorem ext2 (s : ByteArray) : (s.extract 2 s.size).data.toList = s.data.toList.drop 2 := by
  rw [← take2 s]
  simp [ByteArray.data_extract]
set_option maxHeartbeats 1000000 in
set_option maxRecDepth 100000 in
theorem isName_any (s : ByteArray) (w : World) (hs : s.size ≤ 1073741824) : Calls Tryz.prog 40 #[.string s] w fun e w' => e = .returned (.bool (isN s.data.toList)) ∧ Below w.heap.size w w' := by
  obtain ⟨W0, hW0⟩ : ∃ W0, W0 = w.alloc (.cells #[.string ⟨#[98, 47]⟩, .string ⟨#[99, 47]⟩, .string ⟨#[116, 47]⟩] 9) := ⟨_, rfl⟩
  have hx0 : W0.heap[w.heap.size]? = some (.cells #[.string ⟨#[98, 47]⟩, .string ⟨#[99, 47]⟩, .string ⟨#[116, 47]⟩] 9 (0, 0)) := by rw [hW0]; exact heap_alloc_new _ _
  have hb0 : Below w.heap.size w W0 := by rw [hW0]; exact (Below.refl _ _).alloc (Nat.le_refl _) _
  have HW := hide hW0
  have x0 : W0.cell? ⟨w.heap.size, 0, none⟩ = some (.string ⟨#[98, 47]⟩) := cell_of_row _ _ 0 _ _ _ hx0
  have x1 : W0.cell? ⟨w.heap.size, 1, none⟩ = some (.string ⟨#[99, 47]⟩) := cell_of_row _ _ 1 _ _ _ hx0
  have x2 : W0.cell? ⟨w.heap.size, 2, none⟩ = some (.string ⟨#[116, 47]⟩) := cell_of_row _ _ 2 _ _ _ hx0
  clear hx0 hW0
  go_enter Tryz.func40, Tryz.ntmps40
  go_wp2
  rw [← unhide HW]
  clear HW
  go_loop [9] (fun i => ∃ k : Nat, k ≤ 3 ∧ i = .int .i64 k ∧ Hid (∀ j, j < k → Lib.hasPrefix s.data.toList (begN j).data.toList = false)) (fun i => 3 - (intOf i).toNat)
  case atStart => exact ⟨0, Nat.zero_le _, rfl, hide (fun j hj => by omega)⟩
  case round =>
    obtain ⟨k, hk, rfl, A⟩ := hrel
    rcases (by omega : k = 0 ∨ k = 1 ∨ k = 2 ∨ k = 3) with rfl | rfl | rfl | rfl
    · have hC := cutP_any s ⟨#[98, 47]⟩ W0 hs
      cases hp : Lib.hasPrefix s.data.toList [98, 47] with
      | true =>
        have B := hide (isN_of (x := 98) (by simp) hp)
        rw [show (⟨#[98, 47]⟩ : ByteArray).data.toList = [98, 47] from rfl, hp] at hC
        clear hp
        go_wp2_with (first | (go_at_call 72; refine hC.mono ?_; clear hC; rintro ev w1 ⟨rfl, rfl⟩) | (go_at_call 73; refine (isDig_any _ _).mono ?_; rintro ev w2 ⟨rfl, rfl⟩))
        go_ret
        exact ⟨by rw [unhide B, take2]; rfl, hb0⟩
      | false =>
        have B : Hid (∀ j, j < 0 + 1 → Lib.hasPrefix s.data.toList (begN j).data.toList = false) := hide (fun j hj => by
          obtain rfl : j = 0 := by omega
          exact hp)
        rw [show (⟨#[98, 47]⟩ : ByteArray).data.toList = [98, 47] from rfl, hp] at hC
        clear hp
        go_wp2_with (go_at_call 72; refine hC.mono ?_; clear hC; rintro ev w1 ⟨rfl, rfl⟩)
        go_round
        case rel => exact ⟨1, by omega, by go_num, B⟩
        case measure => simp [intOf]
    · have hC := cutP_any s ⟨#[99, 47]⟩ W0 hs
      cases hp : Lib.hasPrefix s.data.toList [99, 47] with
      | true =>
        have B := hide (isN_of (x := 99) (by simp) hp)
        rw [show (⟨#[99, 47]⟩ : ByteArray).data.toList = [99, 47] from rfl, hp] at hC
        clear hp
        go_wp2_with (first | (go_at_call 72; refine hC.mono ?_; clear hC; rintro ev w1 ⟨rfl, rfl⟩) | (go_at_call 73; refine (isDig_any _ _).mono ?_; rintro ev w2 ⟨rfl, rfl⟩))
        go_ret
        exact ⟨by rw [unhide B, take2]; rfl, hb0⟩
      | false =>
        have B : Hid (∀ j, j < 2 → Lib.hasPrefix s.data.toList (begN j).data.toList = false) := hide (fun j hj => by
          rcases (by omega : j = 0 ∨ j = 1) with rfl | rfl
          · exact unhide A 0 (by omega)
          · exact hp)
        rw [show (⟨#[99, 47]⟩ : ByteArray).data.toList = [99, 47] from rfl, hp] at hC
        clear hp
        go_wp2_with (go_at_call 72; refine hC.mono ?_; clear hC; rintro ev w1 ⟨rfl, rfl⟩)
        go_round
        case rel => exact ⟨2, by omega, by go_num, B⟩
        case measure => simp [intOf]
    · have hC := cutP_any s ⟨#[116, 47]⟩ W0 hs
      cases hp : Lib.hasPrefix s.data.toList [116, 47] with
      | true =>
        have B := hide (isN_of (x := 116) (by simp) hp)
        rw [show (⟨#[116, 47]⟩ : ByteArray).data.toList = [116, 47] from rfl, hp] at hC
        clear hp
        go_wp2_with (first | (go_at_call 72; refine hC.mono ?_; clear hC; rintro ev w1 ⟨rfl, rfl⟩) | (go_at_call 73; refine (isDig_any _ _).mono ?_; rintro ev w2 ⟨rfl, rfl⟩))
        go_ret
        exact ⟨by rw [unhide B, take2]; rfl, hb0⟩
      | false =>
        have B : Hid (∀ j, j < 3 → Lib.hasPrefix s.data.toList (begN j).data.toList = false) := hide (fun j hj => by
          rcases (by omega : j = 0 ∨ j = 1 ∨ j = 2) with rfl | rfl | rfl
          · exact unhide A 0 (by omega)
          · exact unhide A 1 (by omega)
          · exact hp)
        rw [show (⟨#[116, 47]⟩ : ByteArray).data.toList = [116, 47] from rfl, hp] at hC
        clear hp
        go_wp2_with (go_at_call 72; refine hC.mono ?_; clear hC; rintro ev w1 ⟨rfl, rfl⟩)
        go_round
        case rel => exact ⟨3, by omega, by go_num, B⟩
        case measure => simp [intOf]
    · have B := hide (isN_no (unhide A 0 (by omega)) (unhide A 1 (by omega)) (unhide A 2 (by omega)))
      go_wp2
      go_ret
      exact ⟨by rw [unhide B]; rfl, hb0⟩
end Go.Proofs.YtabahmnagffnbaaGreatDoor
