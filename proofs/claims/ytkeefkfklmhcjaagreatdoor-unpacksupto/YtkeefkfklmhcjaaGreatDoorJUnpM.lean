import Derived.Test.YtkeefkfklmhcjaaGreatDoorJUnpI
namespace Go.Proofs.YtkeefkfklmhcjaaGreatDoor
open Go.RowKit

theorem upN_app {a b : List UInt8} (h : (0 : UInt8) ∉ a) : upN (a ++ 0 :: b) = a := by
  have := upN_zeros a 1 h
  induction a with
  | nil => simp [upN]
  | cons x a ih =>
    have hx : x ≠ 0 := fun e => h (by rw [e]; simp)
    have h' : (0 : UInt8) ∉ a := fun e => h (List.mem_cons_of_mem _ e)
    have e := ih h' (upN_zeros a 1 h')
    unfold upN at e ⊢
    rw [List.cons_append, List.takeWhile_cons_of_pos (by simpa using hx), e]
theorem upN_none {a : List UInt8} (h : (0 : UInt8) ∉ a) : upN a = a := by
  have := upN_zeros a 0 h
  simpa using this
theorem byte0 {c : UInt8} : c = 0 ↔ (c.toNat : Int) = 0 := by
  constructor
  · rintro rfl; rfl
  · intro h; apply UInt8.toNat_inj.1; simpa using h
theorem upTo_any (s : ByteArray) (w : World) (hs : s.size ≤ 4294967280) :
    Calls Tryz.prog 97 #[.string s] w fun e w' => ∃ t : ByteArray, e = .returned (.string t) ∧ Hid (t = bt (upN s.data.toList)) ∧ w' = w := by
  go_enter Tryz.func97, Tryz.ntmps97
  go_wp2
  go_loop [3] (fun i => ∃ k : Nat, k ≤ s.size ∧ i = .int .i64 k ∧ Hid ((0 : UInt8) ∉ s.data.toList.take k)) (fun i => s.size - (intOf i).toNat)
  case atStart => exact ⟨0, Nat.zero_le _, rfl, hide (by simp)⟩
  case round =>
    obtain ⟨k, hk, rfl, HA⟩ := hrel
    by_cases hlt : k < s.size
    · have i0 : (0 : Int) ≤ (k : Int) := by omega
      have i1 : (k : Int) ≤ (s.size : Int) := by omega
      by_cases hc : s[k] = 0
      · have HF : Hid (s.extract 0 k = bt (upN s.data.toList)) := hide (by
          have e : s.data.toList = s.data.toList.take k ++ 0 :: s.data.toList.drop (k + 1) := by
            conv => lhs; rw [← List.take_append_drop k s.data.toList]
            rw [List.drop_eq_getElem_cons (by rw [← Lib.size_eq]; exact hlt)]
            congr 2
          rw [ext_take]
          conv => rhs; rw [e]
          rw [upN_app (unhide HA)])
        have hc' : (s[k].toNat : Int) = 0 := byte0.1 hc
        clear hc
        go_wp2
        go_ret
        exact ⟨_, rfl, HF, rfl⟩
      · have hc' : ((s[k].toNat : Int) == 0) = false := by
          simp only [beq_eq_false_iff_ne, ne_eq]; exact fun e => hc (byte0.2 e)
        have HB : Hid ((0 : UInt8) ∉ s.data.toList.take (k + 1)) := hide (by
          rw [take_snoc s k hlt]
          simp only [List.mem_append, List.mem_singleton, not_or]
          exact ⟨unhide HA, fun e => hc e.symm⟩)
        clear hc
        go_wp2
        go_round
        case rel => exact ⟨k + 1, by omega, by go_num, HB⟩
        case measure => simp [intOf]; omega
    · have HF : Hid (s = bt (upN s.data.toList)) := hide (by
        have := unhide HA
        rw [List.take_of_length_le (by rw [← Lib.size_eq]; omega)] at this
        rw [upN_none this, bt_of])
      go_wp2
      go_ret
      exact ⟨_, rfl, HF, rfl⟩
/-- The number that the document reads. -/
def numR (l : List UInt8) : Int := if l.all isOct = true then (octV l : Nat) else -1
theorem octV_lt (l : List UInt8) (h : l.all isOct = true) : octV l < 8 ^ l.length := by
  have := puV_lt l 0 0 (octV l) (by decide) (puV_oct l 0 h)
  rwa [Nat.zero_add] at this
theorem numR_any (s : ByteArray) (w : World) (hs : s.size ≤ 12) :
    Calls Tryz.prog 98 #[.string s] w fun e w' => ∃ v : Int, e = .returned (.int .i64 v) ∧ Hid (v = numR s.data.toList) ∧ w' = w := by
  go_enter Tryz.func98, Tryz.ntmps98
  go_wp2
  go_loop [3, 4] (fun x i => ∃ (k : Nat) (a : Int), k ≤ s.size ∧ x = .int .i64 a ∧ i = .int .i64 k ∧ Hid ((s.data.toList.take k).all isOct = true ∧ a = (octV (s.data.toList.take k) : Nat)) ∧ 0 ≤ a ∧ a < 68719476736) (fun _ i => s.size - (intOf i).toNat)
  case atStart => exact ⟨0, 0, Nat.zero_le _, rfl, rfl, hide ⟨rfl, rfl⟩, by omega, by omega⟩
  case round =>
    obtain ⟨k, a, hk, rfl, rfl, HA, a0, a1⟩ := hrel
    by_cases hlt : k < s.size
    · have hc256 : s[k].toNat < 256 := s[k].toNat_lt
      by_cases hd : 48 ≤ s[k].toNat ∧ s[k].toNat ≤ 55
      · have HB : Hid ((s.data.toList.take (k + 1)).all isOct = true ∧ 8 * a + ((s[k].toNat : Int) - 48) = (octV (s.data.toList.take (k + 1)) : Nat)) := hide (by
          have h := unhide HA
          rw [take_snoc s k hlt, List.all_append, h.1, octV_snoc]
          refine ⟨by simp only [List.all_cons, List.all_nil, isOct, hd]; decide, ?_⟩
          have := h.2
          omega)
        have hlt8 : 8 * a + ((s[k].toNat : Int) - 48) < 68719476736 := by
          have h := octV_lt _ (unhide HB).1
          have e : 8 * a + ((s[k].toNat : Int) - 48) = (octV (s.data.toList.take (k + 1)) : Nat) := (unhide HB).2
          rw [List.length_take, ← Lib.size_eq, Nat.min_eq_left (by omega)] at h
          have h8 : (8 : Nat) ^ (k + 1) ≤ 8 ^ 12 := Nat.pow_le_pow_right (by omega) (by omega)
          have h12 : (8 : Nat) ^ 12 = 68719476736 := by decide
          omega
        obtain ⟨d0, d1⟩ := hd
        have j0 : 48 ≤ (s[k].toNat : Int) := by omega
        have j1 : (s[k].toNat : Int) ≤ 55 := by omega
        go_wp2
        go_round
        case rel => exact ⟨k + 1, 8 * a + ((s[k].toNat : Int) - 48), by omega, by go_num, by go_num, HB, by omega, hlt8⟩
        case measure => simp [intOf]; omega
      · have HF : Hid ((-1 : Int) = numR s.data.toList) := hide (by
          have : s.data.toList.all isOct = false := by
            rw [List.all_eq_false]
            refine ⟨s[k], ?_, by simpa [isOct] using hd⟩
            rw [show s[k] = s.data[k] from rfl]; simp
          rw [numR, this]; rfl)
        have hc2 : (s[k].toNat : Int) < 48 ∨ 55 < (s[k].toNat : Int) := by omega
        clear hd
        rcases hc2 with hc | hc
        all_goals
          go_wp2
          go_ret
          exact ⟨_, rfl, HF, rfl⟩
    · have HF : Hid (a = numR s.data.toList) := hide (by
        have h := unhide HA
        rw [List.take_of_length_le (by rw [← Lib.size_eq]; omega)] at h
        rw [numR, if_pos h.1]; exact h.2)
      go_wp2
      go_ret
      exact ⟨_, rfl, HF, rfl⟩
/-- What the document calls 'in'. -/
def inR (d r : List UInt8) : List UInt8 := if d = [] ∨ r = [] then d ++ r else d ++ 47 :: r
theorem inR_in {d r : List UInt8} (h : r ≠ []) : inR d r = inL d r := by
  unfold inR inL
  by_cases hd : d = []
  · rw [if_pos (.inl hd), if_pos hd, hd]; rfl
  · rw [if_neg (by rintro (e | e) <;> contradiction), if_neg hd]
theorem inR_nil (r : List UInt8) : inR [] r = r := by unfold inR; rw [if_pos (.inl rfl)]; rfl
theorem inR_len (d r : List UInt8) : (inR d r).length ≤ d.length + r.length + 1 := by
  unfold inR; split
  · rw [List.length_append]; omega
  · rw [List.length_append, List.length_cons]; omega
theorem refIn_any (d r : ByteArray) (w : World) (_ : d.size ≤ 1073741824) (_ : r.size ≤ 1073741824) :
    Calls Tryz.prog 95 #[.string d, .string r] w fun ev w' => ∃ t : ByteArray, ev = .returned (.string t) ∧ Hid (t = bt (inR d.data.toList r.data.toList)) ∧ w' = w := by
  by_cases hr : r.data.toList = []
  · have g2 : r.toList.isEmpty = true := by rw [Lib.toList_data]; simpa using hr
    have HF : Hid (d ++ r = bt (inR d.data.toList r.data.toList)) := hide (by rw [inR, if_pos (.inr hr), ← bt_app, bt_of, bt_of])
    clear hr
    cases hd : d.toList.isEmpty
    all_goals
      go_enter Tryz.func95, Tryz.ntmps95
      go_wp2
      go_ret
      exact ⟨_, rfl, HF, rfl⟩
  · have h := inR_any d r w hr (by omega) (by omega)
    refine h.mono ?_
    rintro e w' ⟨rfl, rfl⟩
    exact ⟨_, rfl, hide (by rw [inR_in hr]), rfl⟩
end Go.Proofs.YtkeefkfklmhcjaaGreatDoor

namespace Go.Proofs.YtkeefkfklmhcjaaGreatDoor
open Go.RowKit

theorem fld_pre {s : List UInt8} {o n k : Nat} (h : k ≤ n) : fldL s o k = (fldL s o n).take k := by
  rw [fldL, fldL, List.take_take, Nat.min_eq_left h]
theorem ext_fld (s : ByteArray) (a b : Nat) : (s.extract a b).data.toList = fldL s.data.toList a (b - a) := by rw [Lib.extract_data]; rfl
/-- The name that the document reads. -/
def nmR (s : List UInt8) : List UInt8 := inR (upN (fldL s 345 155)) (upN (fldL s 0 100))
theorem part2_ne {n : List UInt8} (hr : Run 69 n) (h1 : 100 < n.length) (h2 : n.length ≤ 183) : (partL n).2 ≠ [] := by
  obtain ⟨j, j1, j2, j3⟩ := hr (n.length - 101) (by omega)
  obtain ⟨i, hi, hi1, hi2, hi3⟩ := first_slash hr h1 h2
  have hs : slashFrom n (n.length - 101) = some i := hi
  rw [partL, if_neg (by omega), hs]
  show n.drop (i + 1) ≠ []
  have hij : i ≤ j := by
    obtain ⟨_, k, hk, ek, hb⟩ := List.find?_eq_some_iff_getElem.1 hi
    rw [List.getElem_range] at ek
    subst ek
    rcases Nat.lt_or_ge j k with h | h
    · have h3 := hb j h
      rw [List.getElem_range, j3] at h3
      simp at h3; omega
    · exact h
  intro e
  have := congrArg List.length e
  rw [List.length_drop] at this
  simp at this
  omega
theorem nmR_back {c : Ent} (h : chOk c = true) (r : List UInt8) : nmR (entryL c ++ r) = nameL c := by
  have hf := ent_fld (pkg_of h) r
  have hg := name_good h
  have hn := part_no0 hg.1
  obtain ⟨hr, hl⟩ := name_run h
  rw [nmR, hf.ahead, hf.name, upN_fill hn.1, upN_fill hn.2]
  by_cases h1 : (nameL c).length ≤ 100
  · have e : partL (nameL c) = ([], nameL c) := by rw [partL, if_pos h1]
    rw [e, inR_nil]
  · rw [inR_in (part2_ne hr (by omega) hl), part_join hg.2]
/-- What stands in the text of a change, as the document reads it. -/
structure SaidF (s : List UInt8) (c : Ent) : Prop where
  name : nmR s = nameL c
  mode : numR (fldL s 100 7) = c.mode
  size : numR (fldL s 124 11) = ((dataL c).length : Nat)
  flag : s.getD 156 0 = flagL c
  link : upN (fldL s 157 100) = linkL c
  data : fldL s 512 (dataL c).length = dataL c
  len : 512 + (dataL c).length ≤ s.length
theorem numR_dig {v n : Nat} (_ : (octL v).length ≤ n) : numR (digN v n) = (v : Nat) := by
  rw [numR, if_pos (digN_oct v n), digN_val]
theorem said_fld {c : Ent} (h : chOk c = true) (r : List UInt8) : SaidF (entryL c ++ r) c := by
  have hf := ent_fld (pkg_of h) r
  have hm := (chOk_kind h).2.1
  obtain ⟨m, hpk⟩ := (pkg_of h).pkc
  have o1 : (octL c.mode.toNat).length ≤ 7 := by
    have := octL_lt 2 c.mode.toNat (by simp; omega)
    omega
  have o2 : (octL (dataL c).length).length ≤ 11 := by
    have := octL_lt 4 (dataL c).length (by have := hpk.file; simp; omega)
    omega
  have t1 : fldL (entryL c ++ r) 100 7 = digN c.mode.toNat 7 := by
    rw [fld_pre (n := 8) (by omega), hf.mode, digL_eq, List.take_left' (digN_len o1)]
  have t2 : fldL (entryL c ++ r) 124 11 = digN (dataL c).length 11 := by
    rw [fld_pre (n := 12) (by omega), hf.size, digL_eq, List.take_left' (digN_len o2)]
  refine ⟨nmR_back h r, ?_, ?_, ?_, ?_, hf.data, hf.len⟩
  · rw [t1, numR_dig o1]; omega
  · rw [t2, numR_dig o2]
  · have hk := congrArg (fun l => l[0]?) hf.kind
    simp only [fldL, List.getElem?_take, List.getElem?_drop] at hk
    rw [List.getD_eq_getElem?_getD]
    simp at hk
    rw [hk]; rfl
  · rw [hf.link, upN_fill (link_no0 h)]
theorem flag_kind {c : Ent} (h : chOk c = true) : (flagL c = 53 ↔ c.kind = 1) ∧ (flagL c = 50 ↔ c.kind = 3) := by
  have hk := (chOk_kind h).1
  unfold flagL
  by_cases h1 : c.kind = 1
  · rw [if_pos h1]
    exact ⟨⟨fun _ => h1, fun _ => rfl⟩, ⟨fun e => absurd e (by decide), fun e => by omega⟩⟩
  · rw [if_neg h1]
    by_cases h3 : c.kind = 3
    · rw [if_pos h3]
      exact ⟨⟨fun e => absurd e (by decide), fun e => absurd e h1⟩, ⟨fun _ => h3, fun _ => rfl⟩⟩
    · rw [if_neg h3]
      exact ⟨⟨fun e => absurd e (by decide), fun e => absurd e h1⟩, ⟨fun e => absurd e (by decide), fun e => absurd e h3⟩⟩
/-- What the document's 'said' answers. -/
structure SaidIs (s : List UInt8) (c : Ent) : Prop where
  back : ∀ c' r, chOk c' = true → s = entryL c' ++ r → c = c'
  path : c.path.size ≤ 1048576
  data : c.data.size ≤ 1048576
theorem nmR_len (s : List UInt8) : (nmR s).length ≤ 256 := by
  have h1 := Nat.le_trans (upN_len (fldL s 345 155)) (fld_le s 345 155)
  have h2 := Nat.le_trans (upN_len (fldL s 0 100)) (fld_le s 0 100)
  have := inR_len (upN (fldL s 345 155)) (upN (fldL s 0 100))
  unfold nmR; omega
theorem said_dir {s : List UInt8} {p : ByteArray} (hf : s.getD 156 0 = 53) (hp : p = bt ((nmR s).take ((nmR s).length - 1))) : SaidIs s ⟨p, 1, numR (fldL s 100 7), ⟨#[]⟩⟩ := by
  have hz : p.size ≤ 1048576 := by rw [hp, bt_size, List.length_take]; have := nmR_len s; omega
  refine ⟨fun c' r h e => ?_, hz, Nat.zero_le _⟩
  have hs := said_fld h r
  rw [← e] at hs
  have hk : c'.kind = 1 := (flag_kind h).1.1 (hs.flag.symm.trans hf)
  refine ent_eq ?_ hk.symm hs.mode ?_
  · show p = _
    rw [hp, hs.name, nameL, if_pos hk]
    simp [bt_of]
  · have := data_of h (by omega)
    rw [linkL, if_neg (by omega)] at this
    show (⟨#[]⟩ : ByteArray) = _
    rw [← bt_of c'.data, this]; rfl
theorem said_link {s : List UInt8} {p d : ByteArray} (hf : s.getD 156 0 = 50) (hp : p = bt (nmR s)) (hd : d = bt (upN (fldL s 157 100))) : SaidIs s ⟨p, 3, numR (fldL s 100 7), d⟩ := by
  have hz : p.size ≤ 1048576 := by rw [hp, bt_size]; have := nmR_len s; omega
  have hz2 : d.size ≤ 1048576 := by rw [hd, bt_size]; have := Nat.le_trans (upN_len (fldL s 157 100)) (fld_le s 157 100); omega
  refine ⟨fun c' r h e => ?_, hz, hz2⟩
  have hs := said_fld h r
  rw [← e] at hs
  have hk : c'.kind = 3 := (flag_kind h).2.1 (hs.flag.symm.trans hf)
  refine ent_eq ?_ hk.symm hs.mode ?_
  · show p = _
    rw [hp, hs.name, nameL, if_neg (by omega), if_neg (by omega), if_neg (by omega), bt_of]
  · show d = _
    rw [hd, hs.link, ← data_of h (by omega), bt_of]
theorem said_other {s : List UInt8} {c' : Ent} (h : chOk c' = true) (r : List UInt8) (e : s = entryL c' ++ r) (h5 : s.getD 156 0 ≠ 53) (h2 : s.getD 156 0 ≠ 50) : unmL (nmR s) = (c'.path.data.toList, c'.kind) ∧ numR (fldL s 100 7) = c'.mode ∧ (c'.kind ≠ 2 → c'.data.data.toList = []) ∧ (c'.kind = 2 ∨ c'.kind = 4 ∨ c'.kind = 5) := by
  have hs := said_fld h r
  rw [← e] at hs
  have hk := (chOk_kind h).1
  have k1 : c'.kind ≠ 1 := fun x => h5 (hs.flag.trans ((flag_kind h).1.2 x))
  have k3 : c'.kind ≠ 3 := fun x => h2 (hs.flag.trans ((flag_kind h).2.2 x))
  refine ⟨by rw [hs.name]; exact unm_back h (by omega), hs.mode, fun k2 => ?_, by omega⟩
  have := data_of h k2
  rwa [linkL, if_neg k3] at this
theorem said_mark {s : List UInt8} {p : ByteArray} {k : Int} (h5 : s.getD 156 0 ≠ 53) (h2 : s.getD 156 0 ≠ 50) (hu : unmL (nmR s) = (p.data.toList, k)) (hk : k ≠ 2) : SaidIs s ⟨p, k, numR (fldL s 100 7), ⟨#[]⟩⟩ := by
  have hz : p.size ≤ 1048576 := by
    have := unm_len (nmR s)
    have h3 := nmR_len s
    rw [hu] at this
    rw [Lib.size_eq]; simp only at this; omega
  refine ⟨fun c' r h e => ?_, hz, Nat.zero_le _⟩
  obtain ⟨a, b, c, _⟩ := said_other h r e h5 h2
  rw [hu] at a
  injection a with a1 a2
  refine ent_eq ?_ a2 b ?_
  · show p = _; rw [← bt_of p, a1, bt_of]
  · show (⟨#[]⟩ : ByteArray) = _
    rw [← bt_of c'.data, c (by rw [← a2]; exact hk)]; rfl
theorem said_file {s : List UInt8} {p d : ByteArray} (h5 : s.getD 156 0 ≠ 53) (h2 : s.getD 156 0 ≠ 50) (hu : unmL (nmR s) = (p.data.toList, 2)) (hz : d.size ≤ 1048576) (hd : ∀ v : Nat, numR (fldL s 124 11) = (v : Int) → v ≤ 4096 → 512 + v ≤ s.length → d = bt (fldL s 512 v)) : SaidIs s ⟨p, 2, numR (fldL s 100 7), d⟩ := by
  have hzp : p.size ≤ 1048576 := by
    have := unm_len (nmR s)
    have h3 := nmR_len s
    rw [hu] at this
    rw [Lib.size_eq]; simp only at this; omega
  refine ⟨fun c' r h e => ?_, hzp, hz⟩
  obtain ⟨a, b, _, _⟩ := said_other h r e h5 h2
  rw [hu] at a
  injection a with a1 a2
  have hs := said_fld h r
  rw [← e] at hs
  have hl : (dataL c').length ≤ 4096 := by obtain ⟨m, hm⟩ := (pkg_of h).pkc; exact hm.file
  refine ent_eq ?_ a2 b ?_
  · show p = _; rw [← bt_of p, a1, bt_of]
  · show d = _
    rw [hd _ hs.size hl hs.len, hs.data, dataL, if_pos a2.symm, bt_of]
end Go.Proofs.YtkeefkfklmhcjaaGreatDoor
