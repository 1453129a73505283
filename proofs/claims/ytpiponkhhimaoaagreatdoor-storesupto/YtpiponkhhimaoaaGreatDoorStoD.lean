import Derived.Test.YtpiponkhhimaoaaGreatDoorJStoB
namespace Go.Proofs.YtpiponkhhimaoaaGreatDoor
open Go.RowKit Go.Maps

/-- How many bytes files have. -/
def szL (L : List Blb) : Nat := (L.map fun b => b.data.size).sum
theorem szL_cons (b : Blb) (L : List Blb) : szL (b :: L) = b.data.size + szL L := by simp [szL]
theorem szL_append (L M : List Blb) : szL (L ++ M) = szL L + szL M := by simp [szL]
def getSz (L : List Blb) (x : List UInt8) : Nat := match getB L x with
  | some b => b.data.size
  | none => 0
theorem del_self {L : List Blb} {x : List UInt8} (h : ∀ b ∈ L, b.nm ≠ x) : delB L x = L := by
  rw [delB, List.filter_eq_self]
  intro b hb
  simpa using h b hb
theorem szL_del {L : List Blb} (hL : Rise L) (x : List UInt8) : szL (delB L x) + getSz L x = szL L := by
  induction L with
  | nil => rfl
  | cons b r ih =>
    have hr := (List.pairwise_cons.1 hL).2
    have hb := (List.pairwise_cons.1 hL).1
    by_cases h : b.nm = x
    · have e1 : delB (b :: r) x = r := by
        rw [delB, List.filter_cons_of_neg (by simp [h])]
        exact del_self fun z hz e => fl_ne (hb z hz) (h.trans e.symm)
      have e2 : getSz (b :: r) x = b.data.size := by simp [getSz, getB, h]
      rw [e1, e2, szL_cons]; omega
    · have e1 : delB (b :: r) x = b :: delB r x := by rw [delB, List.filter_cons_of_pos (by simp [h]), delB]
      have e2 : getSz (b :: r) x = getSz r x := by simp [getSz, getB, h]
      rw [e1, e2, szL_cons, szL_cons, ← ih hr]; omega
/-- How many bytes those files have that have come. -/
def doneS (L : List Blb) (left : Lit → Bool) : Nat := szL (L.filter fun b => !left (.string b.nm))
theorem done_none {L : List Blb} {left : Lit → Bool} (h : ∀ b ∈ L, left (.string b.nm) = true) : doneS L left = 0 := by
  rw [doneS, List.filter_eq_nil_iff.2 (fun b hb => by simp [h b hb])]; rfl
theorem done_all {L : List Blb} {left : Lit → Bool} (h : ∀ kl, left kl = false) : doneS L left = szL L := by
  rw [doneS, List.filter_eq_self.2 (fun b _ => by simp [h])]
theorem done_le (L : List Blb) (left : Lit → Bool) : doneS L left ≤ szL L := by
  unfold doneS
  induction L with
  | nil => simp
  | cons b r ih =>
    rw [List.filter_cons]
    split
    · rw [szL_cons, szL_cons]; omega
    · rw [szL_cons]; omega
theorem done_step {L : List Blb} (hL : Rise L) {left : Lit → Bool} {x : List UInt8} (hl : left (.string x) = true) : doneS L (fun z => left z && !z.sameKey (.string x)) = doneS L left + getSz L x := by
  induction L with
  | nil => rfl
  | cons b r ih =>
    have hr := (List.pairwise_cons.1 hL).2
    have hb := (List.pairwise_cons.1 hL).1
    have ih := ih hr
    by_cases h : b.nm = x
    · have e0 : ∀ z ∈ r, (!(left (.string z.nm) && !(Lit.string z.nm).sameKey (.string x))) = !left (.string z.nm) := fun z hz => by
        have : z.nm ≠ x := fun e => fl_ne (hb z hz) (h.trans e.symm)
        simp [Lit.sameKey, this]
      have e2 : getSz (b :: r) x = b.data.size := by simp [getSz, getB, h]
      rw [doneS, doneS, List.filter_cons_of_pos (by simp [Lit.sameKey, h]), List.filter_cons_of_neg (by simp [h, hl]), List.filter_congr e0, szL_cons, e2]; omega
    · have e2 : getSz (b :: r) x = getSz r x := by simp [getSz, getB, h]
      unfold doneS at ih ⊢
      rw [List.filter_cons, List.filter_cons, e2]
      have e3 : (!(left (.string b.nm) && !(Lit.string b.nm).sameKey (.string x))) = !left (.string b.nm) := by simp [Lit.sameKey, h]
      rw [e3]
      split
      · rw [szL_cons, szL_cons, ih]; omega
      · exact ih
theorem key9_inv (key : Value) (kl : Lit) (h : keyOf Tryz.prog 9 key = some kl) : ∃ s : ByteArray, key = .string s := by
  cases key <;> simp [keyOf, Tryz.underlying9, mapKey] at h
  exact ⟨_, rfl⟩
theorem key9_lit {s : ByteArray} {kl : Lit} (h : keyOf Tryz.prog 9 (.string s) = some kl) : kl = .string s.data.toList := by
  simp [keyOf, Tryz.underlying9, mapKey] at h
  exact h.2.symm
theorem rb_inv (v : Value) (y : DataW Unit × List MemPlace) (h : RB v = some y) : ∃ c : ByteArray × ByteArray, v = .agg #[.string c.1, .string c.2] := by
  obtain ⟨b, rfl, _⟩ := RB_inv h
  exact ⟨(b.name, b.data), rfl⟩
theorem getSz_at {L : List Blb} {x : List UInt8} {c : Blb} {y : DataW Unit × List MemPlace} (h : ∀ zd, (DB L).atKey (.string x) zd = y.1) (hv : RB c.val = some y) : getSz L x = c.data.size := by
  have h1 := h .nil
  rw [DB_at] at h1
  rw [RB_val] at hv
  cases hv
  unfold getSz
  cases hg : getB L x with
  | none => rw [hg] at h1; cases h1
  | some z => rw [hg] at h1; rw [itB_inj h1]
theorem has_DB {L : List Blb} {b : Blb} (h : b ∈ L) : Maps.has (DB L) (.string b.nm) = true := by
  rw [DB, Maps.has_eq, List.any_eq_true]
  exact ⟨_, List.mem_map.2 ⟨b, h, rfl⟩, by simp [Lit.sameKey]⟩
theorem look_sz (L : List Blb) (x : List UInt8) : ∃ b : Blb, (lookV L x).1 = b.val ∧ b.data.size = getSz L x := by
  unfold lookV getSz
  cases getB L x with
  | none => exact ⟨_, rfl, rfl⟩
  | some b => exact ⟨b, rfl, rfl⟩
set_option maxHeartbeats 1000000 in
set_option maxRecDepth 100000 in
theorem size_act (sb mb : Nat) (v : Value) (L : List Blb) (q : Int) (A : List Ac) (s : ByteArray) (w : World) (h : PSt w sb mb v L q A) (hs : s.size ≤ 1073741824) (hz : szL L ≤ 1099511627776) :
    Calls Tryz.prog 155 #[.pointer (some ⟨sb, 0, none⟩), .string s] w fun ev w' => ev = .returned (.int .i64 ((szL (delB L s.data.toList) : Nat) : Int)) ∧ Below w.heap.size w w' := by
  have c0 : w.cell? ⟨sb, 0, none⟩ = some (.map (some mb)) := cell_of_row _ _ 0 _ _ _ h.cells
  have hm := h.map
  have HR := hide h.map.rise
  have hsb := h.lt sb (.inl rfl)
  have hmb := h.lt mb (.inr (.inl rfl))
  clear h
  go_enter Tryz.func155, Tryz.ntmps155
  go_wp2_with (first
    | (at_range; refine wpList_range_own _ rfl _ 127 rfl 9 68 (Maps.string_keyed Tryz.underlying9) Tryz.underlying127 RB mb L.length (DB L) rfl hm ?_; intro w0 hrg0 hg0 hs0)
    | go_in)
  go_frame
  go_loopw [5] (fun z wr => ∃ (left : Lit → Bool) (cnt : Nat), wr.ranges Tryz.prog 9 RB mb w.heap.size L.length (DB L) left cnt ∧ z = .int .i64 ((doneS L left : Nat) : Int) ∧ Below w.heap.size w wr)
    (fun _ wr => wr.rangeLeft mb w.heap.size)
  case atStart => exact ⟨_, _, hrg0, by rw [done_none fun b hb => has_DB hb]; rfl, ⟨hg0.os, hg0.tape, hg0.output, hg0.size, fun k hk => hg0.block k hk (by simp)⟩⟩
  case round =>
    obtain ⟨left, cnt, hrg, rfl, hB⟩ := hrel
    have hdl := done_le L left
    go_wp2_with (first
      | (at_next; refine wpList_next_ranges _ rfl _ rfl 9 (Maps.string_keyed Tryz.underlying9) RB Value.string (fun c : ByteArray × ByteArray => .agg #[.string c.1, .string c.2]) key9_inv rb_inv mb w.heap.size L.length (DB L) left cnt rfl hrg ?_ ?_)
      | go_in)
    · intro _ hl0
      obtain ⟨b, hb1, hb2⟩ := look_sz L s.data.toList
      have hk := FM.look hrg.owns s hs false
      rw [if_neg (by decide), hb1] at hk
      have c1 := (hB.cell (p := ⟨sb, 0, none⟩) hsb).trans c0
      have hD := done_all (L := L) hl0
      have hS := szL_del (unhide HR) s.data.toList
      rw [← hb2, ← hD] at hS
      have hf := fld1 b.name b.data wr
      simp only [Blb.val] at hk
      have HB := hide hB
      clear hb1 hb2 hD hrg hB hl0
      go_wp2_with fail
      go_ret
      have e : ((doneS L left : Nat) : Int) - (b.data.size : Int) = ((szL (delB L s.data.toList) : Nat) : Int) := by omega
      exact ⟨by rw [e]; rfl, unhide HB⟩
    · intro x cn cd kl y1 y2 w1 cnt1 hkey hlx hv hat hrg1 hlt hg1 hs1 hen
      obtain rfl := key9_lit hkey
      have hst := done_step (unhide HR) hlx
      have hsz : getSz L x.data.toList = cd.size := getSz_at (c := ⟨cn, cd⟩) hat hv
      have hdl2 := done_le L (fun z => left z && !z.sameKey (.string x.data.toList))
      rw [hsz] at hst
      rw [hst] at hdl2
      have HST := hide hst
      have HRG := hide hrg1
      have HG := hide hg1
      have HB := hide hB
      have HCn := hide hlt
      have HLe := hide hrg.left_eq
      clear hst hsz hat hv hkey hlx hrg1 hg1 hB hrg hlt
      go_wp2_with fail
      go_roundw
      case rel =>
        refine ⟨_, cnt1, (unhide HRG).alloc _, ?_, ?_⟩
        · rw [unhide HST]; congr 1
        · have hB2 : Below w.heap.size w w1 := (unhide HB).grown (unhide HG) (unhide HB).size (fun q hq => by cases hq; exact Nat.le_refl _)
          exact hB2.alloc hB2.size _
      case measure => rw [((unhide HRG).alloc _).left_eq, unhide HLe]; exact unhide HCn
end Go.Proofs.YtpiponkhhimaoaaGreatDoor
