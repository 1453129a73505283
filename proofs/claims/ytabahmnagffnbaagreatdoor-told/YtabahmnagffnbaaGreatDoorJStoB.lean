import Derived.Test.YtabahmnagffnbaaGreatDoorJStoA
import Derived.Shelf.Strings.Builder1
import Derived.Shelf.Strings.Builder2
import Derived.Shelf.Small.Bits
import Derived.Shelf.Strconv.Itoa0
import Derived.Shelf.LaysM
import Derived.Shelf.Strconv.Clone
import Derived.Shelf.Strings.Search1
import Derived.Shelf.Strings.Search2
import Derived.Shelf.Strings.Search3
import Derived.Shelf.Strings.Count
import Derived.Shelf.Strings.Shaped
import Derived.Shelf.Strings.LastIndex
import Derived.Shelf.Strings.Prefix
import Derived.Shelf.Strings.Split
import Derived.Shelf.Strings.SplitShaped
import Derived.Shelf.Bits.Mul64
import Derived.Shelf.Unicode.DecodeSlow
import Derived.Shelf.Slices.CompactS
import Derived.Test.YtabahmnagffnbaaGreatDoorProg
namespace Go.Proofs.YtabahmnagffnbaaGreatDoor
open Go.RowKit Go.Maps

/-- No text. -/
abbrev emp : ByteArray := ⟨#[]⟩
theorem sync_act (sb mb : Nat) (v : Value) (L : List Blb) (q : Int) (A : List Ac) (s : ByteArray) (w : World) (h : PSt w sb mb v L q A) (hA : A.length ≤ 1099511627776) :
    Calls Tryz.prog 69 #[.pointer (some ⟨sb, 0, none⟩), .string s] w fun ev w' => ev = .returned (.tuple #[]) ∧ ∃ v', PSt w' sb mb v' L q (A ++ [⟨2, s, emp, emp⟩]) ∧ Goes w sb mb v w' v' := by
  have HT := tell_act sb mb v L q A ⟨2, s, emp, emp⟩ w h hA
  clear h
  go_enter Tryz.func69, Tryz.ntmps69
  go_wp2_with (go_at_call 77; refine HT.mono ?_; clear HT; rintro ev w1 ⟨rfl, v', hP, hG⟩)
  go_end0
  exact ⟨rfl, v', hP, hG⟩
theorem names_act (sb mb : Nat) (v : Value) (L : List Blb) (q : Int) (A : List Ac) (w : World) (h : PSt w sb mb v L q A) (hA : A.length ≤ 1099511627776) :
    Calls Tryz.prog 71 #[.pointer (some ⟨sb, 0, none⟩)] w fun ev w' => ev = .returned (.tuple #[]) ∧ ∃ v', PSt w' sb mb v' L q (A ++ [⟨4, emp, emp, emp⟩]) ∧ Goes w sb mb v w' v' := by
  have HT := tell_act sb mb v L q A ⟨4, emp, emp, emp⟩ w h hA
  clear h
  go_enter Tryz.func71, Tryz.ntmps71
  go_wp2_with (go_at_call 77; refine HT.mono ?_; clear HT; rintro ev w1 ⟨rfl, v', hP, hG⟩)
  go_end0
  exact ⟨rfl, v', hP, hG⟩
/-- The map of a store has turned. -/
theorem PSt.map_turn {w w1 : World} {sb mb : Nat} {v : Value} {L L' : List Blb} {q : Int} {A : List Ac} (h : PSt w sb mb v L q A) (hg : w.grownBy w1 (some mb)) (hm : FM w1 mb L'.length L') : PSt w1 sb mb v L' q A ∧ Goes w sb mb v w1 v := by
  refine ⟨⟨(hg.block sb (h.lt sb (.inl rfl)) (fun e => h.sb_mb (Option.some.inj e))).trans h.cells, hm, row_turn h.row fun k hk => hg.block k (h.lt k (.inr (.inr hk))) (fun e => h.mb_row (hk.trans e))⟩, Turn.of_grown hg (fun k e => by cases e; exact .inr (.inl rfl)), fun _ => .inl⟩
theorem put_fit {w : World} {b n : Nat} {L : List Blb} {x : Blb} (hr : Rise L) (h : w.ownsMap Tryz.prog 9 RB b n ((DB L).put (.string x.nm) (itB x))) : FM w b (putB L x).length (putB L x) := by
  rw [DB_put hr] at h
  exact FM.fit h (Nat.le_refl _)
theorem del_fit {w : World} {b n : Nat} {L : List Blb} {x : List UInt8} (h : w.ownsMap Tryz.prog 9 RB b n ((DB L).del (.string x))) : FM w b (delB L x).length (delB L x) := by
  rw [DB_del] at h
  exact FM.fit h (Nat.le_refl _)
set_option maxRecDepth 100000 in
theorem write_act (sb mb : Nat) (v : Value) (L : List Blb) (q : Int) (A : List Ac) (s d : ByteArray) (w : World) (h : PSt w sb mb v L q A) (hA : A.length ≤ 1099511627776) (hL : L.length ≤ 1099511627776) (hs : s.size ≤ 1073741824) :
    Calls Tryz.prog 68 #[.pointer (some ⟨sb, 0, none⟩), .string s, .string d] w fun ev w' => ev = .returned (.tuple #[]) ∧ ∃ v', PSt w' sb mb v' (putB L ⟨s, d⟩) q (A ++ [⟨1, s, emp, d⟩]) ∧ Goes w sb mb v w' v' := by
  have c0 : w.cell? ⟨sb, 0, none⟩ = some (.map (some mb)) := cell_of_row _ _ 0 _ _ _ h.cells
  have HP := hide h
  have hm := h.map
  clear h
  go_enter Tryz.func68, Tryz.ntmps68
  go_wp2_with (first
    | (at_mapUpdate; refine wpList_mapUpdate_own _ rfl _ _ _ 64 rfl 9 93 (Maps.string_keyed Tryz.underlying9) Tryz.underlying64 RB mb L.length (DB L) rfl hm (by unfold maxLen; omega) (.string s) (Blb.val ⟨s, d⟩) (.string s.data.toList) rfl rfl (WideMaps.keyOf_string_mk Tryz.underlying9 (s := s) (by unfold maxLen; omega)) (itB ⟨s, d⟩) [] (RB_val ⟨s, d⟩) ?_; intro w1 hown1 hgrow1; obtain ⟨hP1, hG1⟩ := (unhide HP).map_turn hgrow1 (put_fit (x := ⟨s, d⟩) (unhide HP).map.rise hown1))
    | (go_at_call 77; refine (tell_act sb mb v _ q A ⟨1, s, emp, d⟩ _ hP1 hA).mono ?_; rintro ev w2 ⟨rfl, v', hP2, hG2⟩))
  go_end0
  exact ⟨rfl, v', hP2, hG1.trans hG2⟩
set_option maxRecDepth 100000 in
theorem remove_act (sb mb : Nat) (v : Value) (L : List Blb) (q : Int) (A : List Ac) (s : ByteArray) (w : World) (h : PSt w sb mb v L q A) (hA : A.length ≤ 1099511627776) (hs : s.size ≤ 1073741824) :
    Calls Tryz.prog 44 #[.pointer (some ⟨sb, 0, none⟩), .string s] w fun ev w' => ev = .returned (.tuple #[]) ∧ ∃ v', PSt w' sb mb v' (delB L s.data.toList) q (A ++ [⟨5, s, emp, emp⟩]) ∧ Goes w sb mb v w' v' := by
  have c0 : w.cell? ⟨sb, 0, none⟩ = some (.map (some mb)) := cell_of_row _ _ 0 _ _ _ h.cells
  have HP := hide h
  have hm := h.map
  clear h
  go_enter Tryz.func44, Tryz.ntmps44
  go_wp2_with (first
    | (at_delete; refine wpList_delete_own _ rfl _ _ 64 9 rfl 93 (Maps.string_keyed Tryz.underlying9) Tryz.underlying64 RB mb L.length (DB L) rfl hm (.string s) (.string s.data.toList) rfl (WideMaps.keyOf_string_mk Tryz.underlying9 (s := s) (by unfold maxLen; omega)) ?_; intro w1 hown1 hturn1; obtain ⟨hP1, hG1⟩ := (unhide HP).map_turn hturn1.grown (del_fit hown1))
    | (go_at_call 77; refine (tell_act sb mb v _ q A ⟨5, s, emp, emp⟩ _ hP1 hA).mono ?_; rintro ev w2 ⟨rfl, v', hP2, hG2⟩))
  go_end0
  exact ⟨rfl, v', hP2, hG1.trans hG2⟩
set_option maxRecDepth 100000 in
theorem has_act (sb mb : Nat) (v : Value) (L : List Blb) (q : Int) (A : List Ac) (s : ByteArray) (w : World) (h : PSt w sb mb v L q A) (hs : s.size ≤ 1073741824) :
    Calls Tryz.prog 39 #[.pointer (some ⟨sb, 0, none⟩), .string s] w fun ev w' => ev = .returned (.bool (getB L s.data.toList).isSome) ∧ Below w.heap.size w w' := by
  have c0 : w.cell? ⟨sb, 0, none⟩ = some (.map (some mb)) := cell_of_row _ _ 0 _ _ _ h.cells
  have hk := h.map.look s hs true
  simp only [if_true] at hk
  have hv : ∃ b : Blb, lookV L s.data.toList = (b.val, (getB L s.data.toList).isSome) := by
    unfold lookV
    cases getB L s.data.toList with
    | none => exact ⟨_, rfl⟩
    | some b => exact ⟨b, rfl⟩
  obtain ⟨b, hb⟩ := hv
  rw [hb] at hk
  simp only [Blb.val] at hk
  clear h hb
  go_enter Tryz.func39, Tryz.ntmps39
  go_wp2_with fail
  go_ret
  exact ⟨rfl, by exact ((Below.refl _ w).alloc (Nat.le_refl _) _)⟩
end Go.Proofs.YtabahmnagffnbaaGreatDoor

namespace Go.Proofs.YtabahmnagffnbaaGreatDoor
open Go.RowKit Go.Maps

theorem fld1 (a b : ByteArray) (w : World) : (Instr.field 93 (.agg #[.string a, .string b]) 1).run Tryz.prog w = .ok (.string b) w := by kernel_rfl
theorem PSt.drew {w : World} {sb mb : Nat} {v : Value} {L : List Blb} {q : Int} {A : List Ac} (h : PSt w sb mb v L q A) : PSt w.drew sb mb v L q A := ⟨h.cells, h.map, h.row⟩
theorem Goes.drew {w w' : World} {sb mb : Nat} {v v' : Value} (h : Goes w.drew sb mb v w' v') : Goes w sb mb v w' v' := ⟨⟨h.turn.os, h.turn.tape, h.turn.output, h.turn.size, h.turn.block⟩, h.own⟩
set_option maxHeartbeats 1000000 in
set_option maxRecDepth 100000 in
theorem rename_act (sb mb : Nat) (v : Value) (L : List Blb) (q : Int) (A : List Ac) (s t : ByteArray) (b : Blb) (w : World) (h : PSt w sb mb v L q A) (hA : A.length ≤ 1099511627776) (hL : L.length ≤ 1099511627776) (hs : s.size ≤ 1073741824) (ht : t.size ≤ 1073741824) (hb : getB L s.data.toList = some b) :
    Calls Tryz.prog 70 #[.pointer (some ⟨sb, 0, none⟩), .string s, .string t] w fun ev w' => ev = .returned (.tuple #[]) ∧ ∃ v', PSt w' sb mb v' (delB (putB L ⟨t, b.data⟩) s.data.toList) q (A ++ [⟨3, s, t, emp⟩]) ∧ Goes w sb mb v w' v' := by
  have c0 : w.cell? ⟨sb, 0, none⟩ = some (.map (some mb)) := cell_of_row _ _ 0 _ _ _ h.cells
  have HP := hide h
  have hk := h.drew.map.look s hs false
  rw [lookV, hb] at hk
  simp only [Blb.val] at hk
  rw [if_neg (by decide)] at hk
  obtain ⟨w1, hrun1, hown1, hg1⟩ := World.ownsMap.update h.drew.map (Maps.string_keyed Tryz.underlying9) Tryz.underlying64 (by unfold maxLen; omega) (WideMaps.keyOf_string_mk Tryz.underlying9 (s := t) (by unfold maxLen; omega)) (RB_val ⟨t, b.data⟩)
  obtain ⟨hP1, hG1⟩ := h.drew.map_turn hg1 (put_fit (x := ⟨t, b.data⟩) h.map.rise hown1)
  have hm1 := hP1.map
  have c1 : w1.cell? ⟨sb, 0, none⟩ = some (.map (some mb)) := cell_of_row _ _ 0 _ _ _ hP1.cells
  simp only [Blb.val] at hrun1
  have hl1 : (putB L ⟨t, b.data⟩).length ≤ 1099511627777 := by rw [put_len L h.map.rise]; have := del_len L (Blb.nm ⟨t, b.data⟩); omega
  have HP1 := hide hP1
  have hf := fld1 b.name b.data w.drew
  clear h hown1 hg1 hP1
  go_enter Tryz.func70, Tryz.ntmps70
  go_upto_region 0 with fail
  go_region
  all_goals
    go_wp2_with (first
      | (at_delete; refine wpList_delete_own _ rfl _ _ 64 9 rfl 93 (Maps.string_keyed Tryz.underlying9) Tryz.underlying64 RB mb _ _ rfl hm1 (.string s) (.string s.data.toList) rfl (WideMaps.keyOf_string_mk Tryz.underlying9 (s := s) (by unfold maxLen; omega)) ?_; intro w2 hown2 hturn2; obtain ⟨hP2, hG2⟩ := (unhide HP1).map_turn hturn2.grown (del_fit hown2))
      | (go_at_call 77; refine (tell_act sb mb v _ q A ⟨3, s, t, emp⟩ _ hP2 hA).mono ?_; rintro ev w3 ⟨rfl, v', hP3, hG3⟩))
    go_end0
    exact ⟨rfl, v', hP3, hG1.drew.trans (hG2.trans hG3)⟩
end Go.Proofs.YtabahmnagffnbaaGreatDoor

namespace Go.Proofs.YtabahmnagffnbaaGreatDoor
open Go.RowKit Go.Maps

/-- How many bytes files have. -/
def szL (L : List Blb) : Nat := (L.map fun b => b.data.size).sum
theorem szL_cons (b : Blb) (L : List Blb) : szL (b :: L) = b.data.size + szL L := by simp [szL]
theorem szL_append (L M : List Blb) : szL (L ++ M) = szL L + szL M := by simp [szL]
def getSz (L : List Blb) (x : List UInt8) : Nat := match getB L x with
  | some b => b.data.size
  | none => 0
theorem del_self {L : List Blb} {x : List UInt8} (h : ∀ b ∈ L, b.nm ≠ x) : delB L x = L := by
  rw [delB, List.filter_eq_self]
  intro b hb
  simpa using h b hb
theorem szL_del {L : List Blb} (hL : Rise L) (x : List UInt8) : szL (delB L x) + getSz L x = szL L := by
  induction L with
  | nil => rfl
  | cons b r ih =>
    have hr := (List.pairwise_cons.1 hL).2
    have hb := (List.pairwise_cons.1 hL).1
    by_cases h : b.nm = x
    · have e1 : delB (b :: r) x = r := by
        rw [delB, List.filter_cons_of_neg (by simp [h])]
        exact del_self fun z hz e => fl_ne (hb z hz) (h.trans e.symm)
      have e2 : getSz (b :: r) x = b.data.size := by simp [getSz, getB, h]
      rw [e1, e2, szL_cons]; omega
    · have e1 : delB (b :: r) x = b :: delB r x := by rw [delB, List.filter_cons_of_pos (by simp [h]), delB]
      have e2 : getSz (b :: r) x = getSz r x := by simp [getSz, getB, h]
      rw [e1, e2, szL_cons, szL_cons, ← ih hr]; omega
/-- How many bytes those files have that have come. -/
def doneS (L : List Blb) (left : Lit → Bool) : Nat := szL (L.filter fun b => !left (.string b.nm))
theorem done_none {L : List Blb} {left : Lit → Bool} (h : ∀ b ∈ L, left (.string b.nm) = true) : doneS L left = 0 := by
  rw [doneS, List.filter_eq_nil_iff.2 (fun b hb => by simp [h b hb])]; rfl
theorem done_all {L : List Blb} {left : Lit → Bool} (h : ∀ kl, left kl = false) : doneS L left = szL L := by
  rw [doneS, List.filter_eq_self.2 (fun b _ => by simp [h])]
theorem done_le (L : List Blb) (left : Lit → Bool) : doneS L left ≤ szL L := by
  unfold doneS
  induction L with
  | nil => simp
  | cons b r ih =>
    rw [List.filter_cons]
    split
    · rw [szL_cons, szL_cons]; omega
    · rw [szL_cons]; omega
theorem done_step {L : List Blb} (hL : Rise L) {left : Lit → Bool} {x : List UInt8} (hl : left (.string x) = true) : doneS L (fun z => left z && !z.sameKey (.string x)) = doneS L left + getSz L x := by
  induction L with
  | nil => rfl
  | cons b r ih =>
    have hr := (List.pairwise_cons.1 hL).2
    have hb := (List.pairwise_cons.1 hL).1
    have ih := ih hr
    by_cases h : b.nm = x
    · have e0 : ∀ z ∈ r, (!(left (.string z.nm) && !(Lit.string z.nm).sameKey (.string x))) = !left (.string z.nm) := fun z hz => by
        have : z.nm ≠ x := fun e => fl_ne (hb z hz) (h.trans e.symm)
        simp [Lit.sameKey, this]
      have e2 : getSz (b :: r) x = b.data.size := by simp [getSz, getB, h]
      rw [doneS, doneS, List.filter_cons_of_pos (by simp [Lit.sameKey, h]), List.filter_cons_of_neg (by simp [h, hl]), List.filter_congr e0, szL_cons, e2]; omega
    · have e2 : getSz (b :: r) x = getSz r x := by simp [getSz, getB, h]
      unfold doneS at ih ⊢
      rw [List.filter_cons, List.filter_cons, e2]
      have e3 : (!(left (.string b.nm) && !(Lit.string b.nm).sameKey (.string x))) = !left (.string b.nm) := by simp [Lit.sameKey, h]
      rw [e3]
      split
      · rw [szL_cons, szL_cons, ih]; omega
      · exact ih
theorem key9_inv (key : Value) (kl : Lit) (h : keyOf Tryz.prog 9 key = some kl) : ∃ s : ByteArray, key = .string s := by
  cases key <;> simp [keyOf, Tryz.underlying9, mapKey] at h
  exact ⟨_, rfl⟩
theorem key9_lit {s : ByteArray} {kl : Lit} (h : keyOf Tryz.prog 9 (.string s) = some kl) : kl = .string s.data.toList := by
  simp [keyOf, Tryz.underlying9, mapKey] at h
  exact h.2.symm
theorem rb_inv (v : Value) (y : DataW Unit × List MemPlace) (h : RB v = some y) : ∃ c : ByteArray × ByteArray, v = .agg #[.string c.1, .string c.2] := by
  obtain ⟨b, rfl, _⟩ := RB_inv h
  exact ⟨(b.name, b.data), rfl⟩
theorem getSz_at {L : List Blb} {x : List UInt8} {c : Blb} {y : DataW Unit × List MemPlace} (h : ∀ zd, (DB L).atKey (.string x) zd = y.1) (hv : RB c.val = some y) : getSz L x = c.data.size := by
  have h1 := h .nil
  rw [DB_at] at h1
  rw [RB_val] at hv
  cases hv
  unfold getSz
  cases hg : getB L x with
  | none => rw [hg] at h1; cases h1
  | some z => rw [hg] at h1; rw [itB_inj h1]
theorem has_DB {L : List Blb} {b : Blb} (h : b ∈ L) : Maps.has (DB L) (.string b.nm) = true := by
  rw [DB, Maps.has_eq, List.any_eq_true]
  exact ⟨_, List.mem_map.2 ⟨b, h, rfl⟩, by simp [Lit.sameKey]⟩
theorem look_sz (L : List Blb) (x : List UInt8) : ∃ b : Blb, (lookV L x).1 = b.val ∧ b.data.size = getSz L x := by
  unfold lookV getSz
  cases getB L x with
  | none => exact ⟨_, rfl, rfl⟩
  | some b => exact ⟨b, rfl, rfl⟩
set_option maxHeartbeats 1000000 in
set_option maxRecDepth 100000 in
theorem size_act (sb mb : Nat) (v : Value) (L : List Blb) (q : Int) (A : List Ac) (s : ByteArray) (w : World) (h : PSt w sb mb v L q A) (hs : s.size ≤ 1073741824) (hz : szL L ≤ 1099511627776) :
    Calls Tryz.prog 67 #[.pointer (some ⟨sb, 0, none⟩), .string s] w fun ev w' => ev = .returned (.int .i64 ((szL (delB L s.data.toList) : Nat) : Int)) ∧ Below w.heap.size w w' := by
  have c0 : w.cell? ⟨sb, 0, none⟩ = some (.map (some mb)) := cell_of_row _ _ 0 _ _ _ h.cells
  have hm := h.map
  have HR := hide h.map.rise
  have hsb := h.lt sb (.inl rfl)
  have hmb := h.lt mb (.inr (.inl rfl))
  clear h
  go_enter Tryz.func67, Tryz.ntmps67
  go_wp2_with (first
    | (at_range; refine wpList_range_own _ rfl _ 64 rfl 9 93 (Maps.string_keyed Tryz.underlying9) Tryz.underlying64 RB mb L.length (DB L) rfl hm ?_; intro w0 hrg0 hg0 hs0)
    | go_in)
  go_frame
  go_loopw [5] (fun z wr => ∃ (left : Lit → Bool) (cnt : Nat), wr.ranges Tryz.prog 9 RB mb w.heap.size L.length (DB L) left cnt ∧ z = .int .i64 ((doneS L left : Nat) : Int) ∧ Below w.heap.size w wr)
    (fun _ wr => wr.rangeLeft mb w.heap.size)
  case atStart => exact ⟨_, _, hrg0, by rw [done_none fun b hb => has_DB hb]; rfl, ⟨hg0.os, hg0.tape, hg0.output, hg0.size, fun k hk => hg0.block k hk (by simp)⟩⟩
  case round =>
    obtain ⟨left, cnt, hrg, rfl, hB⟩ := hrel
    have hdl := done_le L left
    go_wp2_with (first
      | (at_next; refine wpList_next_ranges _ rfl _ rfl 9 (Maps.string_keyed Tryz.underlying9) RB Value.string (fun c : ByteArray × ByteArray => .agg #[.string c.1, .string c.2]) key9_inv rb_inv mb w.heap.size L.length (DB L) left cnt rfl hrg ?_ ?_)
      | go_in)
    · intro _ hl0
      obtain ⟨b, hb1, hb2⟩ := look_sz L s.data.toList
      have hk := FM.look hrg.owns s hs false
      rw [if_neg (by decide), hb1] at hk
      have c1 := (hB.cell (p := ⟨sb, 0, none⟩) hsb).trans c0
      have hD := done_all (L := L) hl0
      have hS := szL_del (unhide HR) s.data.toList
      rw [← hb2, ← hD] at hS
      have hf := fld1 b.name b.data wr
      simp only [Blb.val] at hk
      have HB := hide hB
      clear hb1 hb2 hD hrg hB hl0
      go_wp2_with fail
      go_ret
      have e : ((doneS L left : Nat) : Int) - (b.data.size : Int) = ((szL (delB L s.data.toList) : Nat) : Int) := by omega
      exact ⟨by rw [e]; rfl, unhide HB⟩
    · intro x cn cd kl y1 y2 w1 cnt1 hkey hlx hv hat hrg1 hlt hg1 hs1 hen
      obtain rfl := key9_lit hkey
      have hst := done_step (unhide HR) hlx
      have hsz : getSz L x.data.toList = cd.size := getSz_at (c := ⟨cn, cd⟩) hat hv
      have hdl2 := done_le L (fun z => left z && !z.sameKey (.string x.data.toList))
      rw [hsz] at hst
      rw [hst] at hdl2
      have HST := hide hst
      have HRG := hide hrg1
      have HG := hide hg1
      have HB := hide hB
      have HCn := hide hlt
      have HLe := hide hrg.left_eq
      clear hst hsz hat hv hkey hlx hrg1 hg1 hB hrg hlt
      go_wp2_with fail
      go_roundw
      case rel =>
        refine ⟨_, cnt1, (unhide HRG).alloc _, ?_, ?_⟩
        · rw [unhide HST]; congr 1
        · have hB2 : Below w.heap.size w w1 := (unhide HB).grown (unhide HG) (unhide HB).size (fun q hq => by cases hq; exact Nat.le_refl _)
          exact hB2.alloc hB2.size _
      case measure => rw [((unhide HRG).alloc _).left_eq, unhide HLe]; exact unhide HCn
end Go.Proofs.YtabahmnagffnbaaGreatDoor

namespace Go.Proofs
open Go.Shelf
def Tryz.laysM316_ren : Go.Shelf.Ren := ⟨fun | 316 => 45 | n => n, fun | 9 => 9 | 3 => 3 | 4 => 4 | 37 => 115 | 0 => 0 | 127 => 146 | 5 => 5 | n => n, fun | n => n⟩
theorem Tryz.laysM316 : Go.Proofs.LaysM.n316 Tryz.prog Tryz.laysM316_ren := {
  mixed := by kernel_rfl
  f316 := Tryz.func45.trans (congrArg some (by kernel_rfl))
  t0 := Tryz.underlying0
  a0 := Tryz.isAgg0
  z0 := Tryz.sizeOf0
  v0 := Tryz.zeroValue0
  t3 := Tryz.underlying3
  a3 := Tryz.isAgg3
  z3 := Tryz.sizeOf3
  v3 := Tryz.zeroValue3
  t4 := Tryz.underlying4
  a4 := Tryz.isAgg4
  z4 := Tryz.sizeOf4
  v4 := Tryz.zeroValue4
  t9 := Tryz.underlying9
  a9 := Tryz.isAgg9
  z9 := Tryz.sizeOf9
  v9 := Tryz.zeroValue9
  t37 := Tryz.underlying115
  a37 := Tryz.isAgg115
  z37 := Tryz.sizeOf115
  v37 := Tryz.zeroValue115
  t127 := Tryz.underlying146
  a127 := Tryz.isAgg146
  z127 := Tryz.sizeOf146
  v127 := Tryz.zeroValue146
  t5 := Tryz.underlying5
  a5 := Tryz.isAgg5
  z5 := Tryz.sizeOf5
  v5 := Tryz.zeroValue5
  i0 := by kernel_rfl
  i3 := by kernel_rfl
  i4 := by kernel_rfl
  i5 := by kernel_rfl
  i9 := by kernel_rfl
  i37 := by kernel_rfl
  i127 := by kernel_rfl }
open Go.RowKit in
theorem Tryz.stringslite_Clone (s : ByteArray) (w : World) (hlim : s.size ≤ 281474976710656) :
    Calls Tryz.prog 45 #[.string s] w fun e w' => e = .returned (.string s) ∧ Below w.heap.size w w' := Any.stringslite_Clone Tryz.laysM316 s w hlim
def Tryz.lays148_ren : Go.Shelf.Ren := ⟨fun | 148 => 81 | 222 => 98 | 223 => 99 | 269 => 115 | n => n, fun | 9 => 9 | 3 => 3 | 4 => 4 | 5 => 5 | 146 => 171 | 51 => 107 | 46 => 161 | n => n, fun | n => n⟩
theorem Tryz.lays148 : Go.Proofs.Lays.n148 Tryz.prog Tryz.lays148_ren := {
  mixed := by kernel_rfl
  f148 := Tryz.func81.trans (congrArg some (by kernel_rfl))
  f222 := Tryz.func98.trans (congrArg some (by kernel_rfl))
  f223 := Tryz.func99.trans (congrArg some (by kernel_rfl))
  f269 := Tryz.func115.trans (congrArg some (by kernel_rfl))
  t3 := Tryz.underlying3
  a3 := Tryz.isAgg3
  z3 := Tryz.sizeOf3
  v3 := Tryz.zeroValue3
  t4 := Tryz.underlying4
  a4 := Tryz.isAgg4
  z4 := Tryz.sizeOf4
  v4 := Tryz.zeroValue4
  t5 := Tryz.underlying5
  a5 := Tryz.isAgg5
  z5 := Tryz.sizeOf5
  v5 := Tryz.zeroValue5
  t9 := Tryz.underlying9
  a9 := Tryz.isAgg9
  z9 := Tryz.sizeOf9
  v9 := Tryz.zeroValue9
  t46 := Tryz.underlying161
  a46 := Tryz.isAgg161
  z46 := Tryz.sizeOf161
  v46 := Tryz.zeroValue161
  t51 := Tryz.underlying107
  a51 := Tryz.isAgg107
  z51 := Tryz.sizeOf107
  v51 := Tryz.zeroValue107
  t146 := Tryz.underlying171
  a146 := Tryz.isAgg171
  z146 := Tryz.sizeOf171
  v146 := Tryz.zeroValue171 }
open Go.RowKit Go.Lib in
theorem Tryz.strings_LastIndex_one (s sub : ByteArray) (h1 : sub.size = 1) (hs : s.size < 4611686018427387904) (w : World) :
    Calls Tryz.prog 81 #[.string s, .string sub] w fun e w' => e = .returned (.int .i64 (Lib.lastIndexByte s ((sub[0]'(by omega)).toNat : Int))) ∧ w' = w := Any.strings_LastIndex_one Tryz.lays148 s sub h1 hs w
def Tryz.lays99_ren : Go.Shelf.Ren := ⟨fun | 99 => 43 | 206 => 76 | n => n, fun | 9 => 9 | 4 => 4 | 3 => 3 | n => n, fun | n => n⟩
theorem Tryz.lays99 : Go.Proofs.Lays.n99 Tryz.prog Tryz.lays99_ren := {
  mixed := by kernel_rfl
  f99 := Tryz.func43.trans (congrArg some (by kernel_rfl))
  f206 := Tryz.func76.trans (congrArg some (by kernel_rfl))
  t3 := Tryz.underlying3
  a3 := Tryz.isAgg3
  z3 := Tryz.sizeOf3
  v3 := Tryz.zeroValue3
  t4 := Tryz.underlying4
  a4 := Tryz.isAgg4
  z4 := Tryz.sizeOf4
  v4 := Tryz.zeroValue4
  t9 := Tryz.underlying9
  a9 := Tryz.isAgg9
  z9 := Tryz.sizeOf9
  v9 := Tryz.zeroValue9 }
open Go.RowKit Go.Lib in
theorem Tryz.strings_HasPrefix (s p : ByteArray) (w : World) :
    Calls Tryz.prog 43 #[.string s, .string p] w fun e w' => e = .returned (.bool (Lib.hasPrefix s.data.toList p.data.toList)) ∧ w' = w := Any.strings_HasPrefix Tryz.lays99 s p w
def Tryz.lays146_ren : Go.Shelf.Ren := ⟨fun | 146 => 80 | 221 => 97 | 268 => 112 | 138 => 113 | 143 => 114 | 195 => 137 | 197 => 138 | 218 => 139 | 219 => 140 | 260 => 151 | 217 => 108 | 225 => 152 | 224 => 153 | 267 => 154 | 266 => 125 | 314 => 158 | n => n, fun | 9 => 9 | 31 => 96 | 3 => 3 | 4 => 4 | 0 => 0 | 105 => 192 | 21 => 21 | 5 => 5 | 46 => 161 | 119 => 208 | 139 => 211 | 138 => 210 | 146 => 171 | 51 => 107 | n => n, fun | 1 => 2 | 3 => 4 | 4 => 5 | n => n⟩
theorem Tryz.lays146 : Go.Proofs.Lays.n146 Tryz.prog Tryz.lays146_ren := {
  mixed := by kernel_rfl
  f138 := Tryz.func113.trans (congrArg some (by kernel_rfl))
  f143 := Tryz.func114.trans (congrArg some (by kernel_rfl))
  f146 := Tryz.func80.trans (congrArg some (by kernel_rfl))
  f195 := Tryz.func137.trans (congrArg some (by kernel_rfl))
  f197 := Tryz.func138.trans (congrArg some (by kernel_rfl))
  f217 := Tryz.func108.trans (congrArg some (by kernel_rfl))
  f218 := Tryz.func139.trans (congrArg some (by kernel_rfl))
  f219 := Tryz.func140.trans (congrArg some (by kernel_rfl))
  f221 := Tryz.func97.trans (congrArg some (by kernel_rfl))
  f224 := Tryz.func153.trans (congrArg some (by kernel_rfl))
  f225 := Tryz.func152.trans (congrArg some (by kernel_rfl))
  f260 := Tryz.func151.trans (congrArg some (by kernel_rfl))
  f266 := Tryz.func125.trans (congrArg some (by kernel_rfl))
  f267 := Tryz.func154.trans (congrArg some (by kernel_rfl))
  f268 := Tryz.func112.trans (congrArg some (by kernel_rfl))
  f314 := Tryz.func158.trans (congrArg some (by kernel_rfl))
  t0 := Tryz.underlying0
  a0 := Tryz.isAgg0
  z0 := Tryz.sizeOf0
  v0 := Tryz.zeroValue0
  t3 := Tryz.underlying3
  a3 := Tryz.isAgg3
  z3 := Tryz.sizeOf3
  v3 := Tryz.zeroValue3
  t4 := Tryz.underlying4
  a4 := Tryz.isAgg4
  z4 := Tryz.sizeOf4
  v4 := Tryz.zeroValue4
  t5 := Tryz.underlying5
  a5 := Tryz.isAgg5
  z5 := Tryz.sizeOf5
  v5 := Tryz.zeroValue5
  t9 := Tryz.underlying9
  a9 := Tryz.isAgg9
  z9 := Tryz.sizeOf9
  v9 := Tryz.zeroValue9
  t21 := Tryz.underlying21
  a21 := Tryz.isAgg21
  z21 := Tryz.sizeOf21
  v21 := Tryz.zeroValue21
  t31 := Tryz.underlying96
  a31 := Tryz.isAgg96
  z31 := Tryz.sizeOf96
  v31 := Tryz.zeroValue96
  t46 := Tryz.underlying161
  a46 := Tryz.isAgg161
  z46 := Tryz.sizeOf161
  v46 := Tryz.zeroValue161
  t51 := Tryz.underlying107
  a51 := Tryz.isAgg107
  z51 := Tryz.sizeOf107
  v51 := Tryz.zeroValue107
  t105 := Tryz.underlying192
  a105 := Tryz.isAgg192
  z105 := Tryz.sizeOf192
  v105 := Tryz.zeroValue192
  t119 := Tryz.underlying208
  a119 := Tryz.isAgg208
  z119 := Tryz.sizeOf208
  t138 := Tryz.underlying210
  a138 := Tryz.isAgg210
  z138 := Tryz.sizeOf210
  v138 := Tryz.zeroValue210
  t139 := Tryz.underlying211
  a139 := Tryz.isAgg211
  z139 := Tryz.sizeOf211
  v139 := Tryz.zeroValue211
  t146 := Tryz.underlying171
  a146 := Tryz.isAgg171
  z146 := Tryz.sizeOf171
  v146 := Tryz.zeroValue171
  g1 := by kernel_rfl
  g3 := by kernel_rfl
  g4 := by kernel_rfl }
open Go.RowKit Go.Lib in
theorem Tryz.strings_Split (s sep : ByteArray) (m : Int) (w : World) (hs : s.size < 4294967281) (hm : w.cell? ⟨2, 0, none⟩ = some (.int .i64 m)) (h1 : 1 ≤ sep.size) :
    Calls Tryz.prog 80 #[.string s, .string sep] w fun e w' =>
      e = .returned (.slice (some ⟨w.heap.size, 0, none⟩) (Lib.countB s sep + 1) (Lib.countB s sep + 1)) ∧ w' = w.alloc (.cells ((Lib.splitB sep 0 (Lib.countB s sep) s).map Value.string).toArray 9) := Any.strings_Split Tryz.lays146 (by kernel_rfl) s sep m w hs hm h1
end Go.Proofs

namespace Go.Proofs.YtabahmnagffnbaaGreatDoor
end Go.Proofs.YtabahmnagffnbaaGreatDoor
