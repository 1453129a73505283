import Derived.Test.YtabahmnagffnbaaGreatDoorJStoK
namespace Go.Proofs.YtabahmnagffnbaaGreatDoor
open Go.RowKit Go.Maps Go.Sort Go.Shelf

theorem hex_cases (c : UInt8) : (hexB c = true ∧ (48 ≤ (c.toNat : Int) ∧ (c.toNat : Int) ≤ 57 ∨ 97 ≤ (c.toNat : Int) ∧ (c.toNat : Int) ≤ 102)) ∨ (hexB c = false ∧ ((c.toNat : Int) < 48 ∨ (57 < (c.toNat : Int) ∧ (c.toNat : Int) < 97) ∨ 102 < (c.toNat : Int))) := by
  unfold hexB
  by_cases h1 : 48 ≤ c.toNat ∧ c.toNat ≤ 57
  · exact .inl ⟨by simp [h1], .inl ⟨by omega, by omega⟩⟩
  · by_cases h2 : 97 ≤ c.toNat ∧ c.toNat ≤ 102
    · exact .inl ⟨by simp [h2], .inr ⟨by omega, by omega⟩⟩
    · exact .inr ⟨by simp [h1, h2], by omega⟩
theorem isN_len {l : List UInt8} (h : l.length ≠ 66) : isN l = false := by
  match l, h with
  | x :: y :: r, h =>
    have : isDig r = false := by rw [isDig]; simp at h; simp; intro e; omega
    simp [isN, this]
  | [x], _ => rfl
  | [], _ => rfl
theorem isN_at (s : ByteArray) (h : s.size = 66) (h0 : 0 < s.size) (h1 : 1 < s.size) : isN s.data.toList = ((s[0] == 98 || s[0] == 99 || s[0] == 116) && s[1] == 47 && isDig (s.data.toList.drop 2)) := by
  have hl : s.data.toList.length = 66 := by rw [← Lib.size_eq]; exact h
  match hs : s.data.toList, hl with
  | x :: y :: r, hl =>
    have e0 : s[0] = x := by
      have : s.data.toList[0]? = some s[0] := by rw [List.getElem?_eq_getElem (by rw [hs]; simp)]; rfl
      rw [hs] at this; simpa using this.symm
    have e1 : s[1] = y := by
      have : s.data.toList[1]? = some s[1] := by rw [List.getElem?_eq_getElem (by rw [hs]; simp)]; rfl
      rw [hs] at this; simpa using this.symm
    rw [e0, e1]; rfl
  | [x], hl => simp at hl
  | [], hl => simp at hl
theorem u8_int (c : UInt8) (n : Nat) (hn : n < 256) : (c == UInt8.ofNat n) = ((c.toNat : Int) == (n : Int)) := by
  rw [Bool.eq_iff_iff]
  simp only [beq_iff_eq]
  constructor
  · rintro rfl
    simp
    omega
  · intro h
    have : c.toNat = n := by omega
    rw [← this]; simp
end Go.Proofs.YtabahmnagffnbaaGreatDoor

namespace Go.Proofs.YtabahmnagffnbaaGreatDoor
open Go.RowKit Go.Maps Go.Sort Go.Shelf

/-- Files put one behind the other. -/
def putAll (F : List Blb) : List Blb := F.foldl putB []
theorem putAll_snoc (F : List Blb) (b : Blb) : putAll (F ++ [b]) = putB (putAll F) b := by simp [putAll, List.foldl_append]
theorem rise_all (F : List Blb) : Rise (putAll F) := by
  unfold putAll
  have h : ∀ (F L : List Blb), Rise L → Rise (F.foldl putB L) := fun F => by
    induction F with
    | nil => exact fun L h => h
    | cons b r ih => exact fun L h => ih _ (rise_put h b)
  exact h F [] List.Pairwise.nil
theorem mem_all {F : List Blb} {z : Blb} (h : z ∈ putAll F) : z ∈ F := by
  have hh : ∀ (F L : List Blb), z ∈ F.foldl putB L → z ∈ F ∨ z ∈ L := fun F => by
    induction F with
    | nil => exact fun L h => .inr h
    | cons b r ih =>
      intro L h
      rcases ih _ h with h | h
      · exact .inl (List.mem_cons_of_mem _ h)
      · rcases put_mem h with rfl | h
        · exact .inl (by simp)
        · exact .inr h
  rcases hh F [] h with h | h
  · exact h
  · simp at h
theorem len_all (F : List Blb) : (putAll F).length ≤ F.length := by
  have hh : ∀ (F L : List Blb), Rise L → (F.foldl putB L).length ≤ F.length + L.length := fun F => by
    induction F with
    | nil => exact fun L _ => by simp
    | cons b r ih =>
      intro L hL
      have h1 := ih (putB L b) (rise_put hL b)
      have h2 := put_len L hL b
      have h3 := del_len L b.nm
      simp only [List.foldl_cons, List.length_cons]
      omega
  have := hh F [] List.Pairwise.nil
  rw [List.length_nil, Nat.add_zero] at this
  exact this
/-- May the file of this number be there? -/
def okF (F : List Blb) (k : Nat) : Bool := match F[k]? with
  | some b => isN b.nm && !(getB (putAll (F.take k)) b.nm).isSome
  | none => true
def FirstBadF (F : List Blb) (r : Int) : Prop := (r = -1 ∧ ∀ j, j < F.length → okF F j = true) ∨ ∃ i : Nat, r = i ∧ i < F.length ∧ okF F i = false ∧ ∀ j, j < i → okF F j = true
theorem firstBadF_one {F : List Blb} {a b : Int} (h : FirstBadF F a) (k : FirstBadF F b) : a = b := by
  rcases h with ⟨rfl, h⟩ | ⟨i, rfl, hi, h1, h2⟩ <;> rcases k with ⟨rfl, k⟩ | ⟨j, rfl, hj, k1, k2⟩
  · rfl
  · rw [h j hj] at k1; cases k1
  · rw [k i hi] at h1; cases h1
  · have : i = j := by
      rcases Nat.lt_trichotomy i j with e | e | e
      · rw [k2 i e] at h1; cases h1
      · exact e
      · rw [h2 j e] at k1; cases k1
    rw [this]
theorem World.makeMap_st (w : World) (q : Int) : PSt ((w.alloc (.map #[] 0)).alloc (.cells #[.map (some w.heap.size), .int .i64 q, .slice none 0 0] 66)) (w.heap.size + 1) w.heap.size (.slice none 0 0) [] q [] := by
  refine ⟨?_, ?_, World.ownsRow_nil _ _ _ _⟩
  · have := heap_alloc_new (w.alloc (.map #[] 0)) (.cells #[.map (some w.heap.size), .int .i64 q, .slice none 0 0] 66)
    rwa [World.size_alloc] at this
  · exact World.ownsMap.alloc (World.ownsMap_made w Tryz.prog 9 RB) _
/-- Has a file not been renamed yet? -/
def isT (b : Blb) : Bool := Lib.hasPrefix b.nm [116, 47]
/-- Files without such. -/
def remL (L M : List Blb) : List Blb := M.foldl (fun X b => if isT b then delB X b.nm else X) L
def remA (M : List Blb) : List Ac := (M.filter isT).map fun b => ⟨5, b.name, emp, emp⟩
theorem remL_snoc (L M : List Blb) (b : Blb) : remL L (M ++ [b]) = if isT b then delB (remL L M) b.nm else remL L M := by simp [remL, List.foldl_append]
theorem remA_snoc (M : List Blb) (b : Blb) : remA (M ++ [b]) = if isT b then remA M ++ [⟨5, b.name, emp, emp⟩] else remA M := by
  unfold remA
  rw [List.filter_append]
  cases h : isT b <;> simp [h]
theorem remA_len (M : List Blb) : (remA M).length ≤ M.length := by
  rw [remA, List.length_map]; exact List.length_filter_le _ _
theorem remL_mem {L M : List Blb} {z : Blb} (h : z ∈ remL L M) : z ∈ L := by
  have hh : ∀ (M L : List Blb), z ∈ M.foldl (fun X b => if isT b then delB X b.nm else X) L → z ∈ L := fun M => by
    induction M with
    | nil => exact fun L h => h
    | cons b r ih =>
      intro L h
      have := ih _ h
      dsimp only at this
      split at this
      · exact (List.mem_filter.1 this).1
      · exact this
  exact hh M L h
theorem remL_len (L M : List Blb) : (remL L M).length ≤ L.length := by
  have hh : ∀ (M L : List Blb), (M.foldl (fun X b => if isT b then delB X b.nm else X) L).length ≤ L.length := fun M => by
    induction M with
    | nil => exact fun L => Nat.le_refl _
    | cons b r ih =>
      intro L
      refine Nat.le_trans (ih _) ?_
      dsimp only
      split
      · exact del_len L b.nm
      · exact Nat.le_refl _
  exact hh M L
/-- What 'New' answers. -/
def NewP (w : World) (F : List Blb) (q : Int) (v er : Value) (w' : World) : Prop :=
  (∃ i p : Nat, FirstBadF F i ∧ v = .pointer none ∧ er = .iface 56 (.pointer (some ⟨p, 0, none⟩)) ∧ w'.cell? ⟨p, 0, none⟩ = some (.int .i64 11) ∧ w'.cell? ⟨p, 1, none⟩ = some (.int .i64 (i : Int))) ∨
  (FirstBadF F (-1) ∧ (q < 0 ∨ 16777216 < q) ∧ v = .pointer none ∧ er = .iface 29 (.int .i64 10)) ∨
  (FirstBadF F (-1) ∧ (0 ≤ q ∧ q ≤ 16777216) ∧ er = .nilIface ∧ ∃ (sb mb : Nat) (va : Value), v = .pointer (some ⟨sb, 0, none⟩) ∧ (∀ k, OwnS sb mb va k → w.heap.size ≤ k) ∧ PSt w' sb mb va (remL (putAll F) (putAll F)) q (remA (putAll F)))
set_option maxHeartbeats 2000000 in
set_option maxRecDepth 100000 in
theorem new_act (ao : Option Addr) (cap n : Nat) (F : List Blb) (q : Int) (w : World) (hr : BRow w ao F) (HN : Hid (n = F.length)) (hn : n ≤ 16777216) (hs : ∀ b ∈ F, b.name.size ≤ 16777216 ∧ b.data.size ≤ 16777216) :
    Calls Tryz.prog 24 #[.slice ao n cap, .int .i64 q] w fun ev w' => ∃ v er, ev = .returned (.tuple #[v, er]) ∧ NewP w F q v er w' ∧ Below w.heap.size w w' := by
  obtain ⟨W0, hW0⟩ : ∃ W0, W0 = (w.alloc (.map #[] 0)).alloc (.cells #[.map (some w.heap.size), .int .i64 q, .slice none 0 0] 66) := ⟨_, rfl⟩
  have hP0 : PSt W0 (w.heap.size + 1) w.heap.size (.slice none 0 0) [] q [] := by rw [hW0]; exact World.makeMap_st w q
  have hb0 : Below w.heap.size w W0 := by rw [hW0]; exact ((Below.refl _ _).alloc (Nat.le_refl _) _).alloc (by simp) _
  have HW := hide hW0
  have HS := hide hs
  clear hW0 hs
  have hmm := @run_makeMap Tryz.prog
  go_enter Tryz.func24, Tryz.ntmps24
  go_upto_region 2 with fail
  rw [← unhide HW]
  clear HW hmm
  go_wp2
  go_loopw [17] (fun i wr => ∃ k : Nat, k ≤ n ∧ i = .int .i64 k ∧ PSt wr (w.heap.size + 1) w.heap.size (.slice none 0 0) (putAll (F.take k)) q [] ∧ Below w.heap.size w wr ∧ Hid (∀ j, j < k → okF F j = true)) (fun i _ => n - (intOf i).toNat)
  case atStart => exact ⟨0, by omega, rfl, by simpa [putAll] using hP0, hb0, hide (fun j hj => by omega)⟩
  case round =>
    obtain ⟨k, hk, rfl, hP, hb, HK⟩ := hrel
    by_cases hlt : k < n
    · obtain ⟨e, he⟩ : ∃ e, F[k]? = some e := ⟨F[k]'(by have := unhide HN; omega), List.getElem?_eq_getElem (by have := unhide HN; omega)⟩
      obtain ⟨g, o, rfl, c0, c1⟩ := (hr.below hb) k e he
      have i1 : (0 : Int) ≤ (k : Int) := by omega
      have i2 : (k : Int) < (n : Int) := by omega
      have hse := unhide HS e (List.mem_of_getElem? he)
      have hkl : Hid (k < F.length) := hide (by have := unhide HN; omega)
      have HE := hide he
      have HO : Hid (okF F k = (isN e.nm && !(getB (putAll (F.take k)) e.nm).isSome)) := hide (by rw [okF, he])
      have hLl : (putAll (F.take k)).length ≤ 16777216 := Nat.le_trans (len_all _) (by rw [List.length_take]; omega)
      clear he
      go_upto_region 5 with fail
      obtain ⟨W1, hW1⟩ : ∃ W1, W1 = wr.alloc (.cells #[.string e.name, .string e.data] 93) := ⟨_, rfl⟩
      have hbx : W1.heap[wr.heap.size]? = some (.cells #[.string e.name, .string e.data] 93 (0, 0)) := by rw [hW1]; exact heap_alloc_new _ _
      have hB1 : Below wr.heap.size wr W1 := by rw [hW1]; exact (Below.refl _ _).alloc (Nat.le_refl _) _
      rw [← hW1]
      clear hW1 c0 c1
      have d0 : W1.cell? ⟨wr.heap.size, 0, none⟩ = some (.string e.name) := cell_of_row _ _ 0 _ _ _ hbx
      have hP1 := hP.below hB1
      have hH := has_act (w.heap.size + 1) w.heap.size _ _ q _ e.name W1 hP1 (by omega)
      have HP1 := hide hP1
      have HBx := hide hbx
      have HB : Hid (Below w.heap.size w W1) := hide (hb.trans (hB1.mono hb.size))
      clear hP hP1 hbx hB1 hb
      cases hv : (getB (putAll (F.take k)) e.name.data.toList).isSome with
      | true =>
        have HBad : Hid (FirstBadF F k) := hide (.inr ⟨k, rfl, unhide hkl, by rw [unhide HO, show (getB (putAll (F.take k)) e.nm).isSome = true from hv]; simp, unhide HK⟩)
        rw [hv] at hH
        clear hv HO
        go_wp2_with (go_at_call 39; refine hH.mono ?_; clear hH; rintro ev w2 ⟨rfl, hb2⟩)
        go_ret2
        have R := (unhide HB).trans (hb2.mono (unhide HB).size)
        exact ⟨_, _, rfl, .inl ⟨k, w2.heap.size, unhide HBad, rfl, rfl, cell_of_row _ _ 0 _ _ _ (heap_alloc_new _ _), cell_of_row _ _ 1 _ _ _ (heap_alloc_new _ _)⟩, R.alloc R.size _⟩
      | false =>
        rw [hv] at hH
        have hI : ∀ w2, Calls Tryz.prog 40 #[.string e.name] w2 fun ev w' => ev = .returned (.bool (isN e.nm)) ∧ Below w2.heap.size w2 w' := fun w2 => isName_any e.name w2 (by omega)
        cases hN : isN e.nm with
        | false =>
          have HBad : Hid (FirstBadF F k) := hide (.inr ⟨k, rfl, unhide hkl, by rw [unhide HO, hN]; rfl, unhide HK⟩)
          rw [hN] at hI
          clear hv HO hN
          go_wp2_with (first | (go_at_call 39; refine hH.mono ?_; clear hH; rintro ev w2 ⟨rfl, hb2⟩; have d0 := cell_later hb2 d0) | (go_at_call 40; refine (hI _).mono ?_; clear hI; rintro ev w3 ⟨rfl, hb3⟩))
          go_ret2
          have R2 := (unhide HB).trans (hb2.mono (unhide HB).size)
          have R := R2.trans (hb3.mono R2.size)
          exact ⟨_, _, rfl, .inl ⟨k, w3.heap.size, unhide HBad, rfl, rfl, cell_of_row _ _ 0 _ _ _ (heap_alloc_new _ _), cell_of_row _ _ 1 _ _ _ (heap_alloc_new _ _)⟩, R.alloc R.size _⟩
        | true =>
          have HOk : Hid (∀ j, j < k + 1 → okF F j = true) := hide (fun j hj => by
            by_cases hjk : j = k
            · subst hjk; rw [unhide HO, hN, show (getB (putAll (F.take j)) e.nm).isSome = false from hv]; rfl
            · exact unhide HK j (by omega))
          rw [hN] at hI
          clear hv HO hN
          go_upto_region 7 with (first | (go_at_call 39; refine hH.mono ?_; clear hH; rintro ev w2 ⟨rfl, hb2⟩; have d0 := cell_later hb2 d0) | (go_at_call 40; refine (hI _).mono ?_; clear hI; rintro ev w3 ⟨rfl, hb3⟩))
          have hB3 := hb2.trans (hb3.mono hb2.size)
          have hbx3 := keepD_below hB3 (unhide HBx)
          have d0 : w3.cell? ⟨wr.heap.size, 0, none⟩ = some (.string e.name) := cell_of_row _ _ 0 _ _ _ hbx3
          have d1 : w3.cell? ⟨wr.heap.size, 1, none⟩ = some (.string e.data) := cell_of_row _ _ 1 _ _ _ hbx3
          have hC := cloned_any e w3 (by omega) (by omega)
          have HP3 := hide ((unhide HP1).below hB3)
          have HB3 : Hid (Below w.heap.size w w3) := hide ((unhide HB).trans (hB3.mono (unhide HB).size))
          clear HP1 HBx HB hb2 hb3 hB3
          go_upto_region 8 with (go_at_call 41; refine hC.mono ?_; clear hC; rintro ev w4 ⟨rfl, hb4⟩; have hbx4 := keepD_below hb4 hbx3; have e0 : w4.cell? ⟨wr.heap.size, 0, none⟩ = some (.string e.name) := cell_of_row _ _ 0 _ _ _ hbx4; have e1 : w4.cell? ⟨wr.heap.size, 1, none⟩ = some (.string e.data) := cell_of_row _ _ 1 _ _ _ hbx4; have g0 := frzD hbx4 0; have g1 := frzD hbx4 1)
          have hP4 := (unhide HP3).below hb4
          have hid : (w4.setCell ⟨wr.heap.size, 0, none⟩ (.string e.name)).setCell ⟨wr.heap.size, 1, none⟩ (.string e.data) = w4 := by rw [setCell_id e0, setCell_id e1]
          rw [hid]
          have c0 : w4.cell? ⟨w.heap.size + 1, 0, none⟩ = some (.map (some w.heap.size)) := cell_of_row _ _ 0 _ _ _ hP4.cells
          have HB4 : Hid (Below w.heap.size w w4) := hide ((unhide HB3).trans (hb4.mono (unhide HB3).size))
          obtain ⟨w5, hrun5, hown5, hg5⟩ := World.ownsMap.update hP4.drew.map (Maps.string_keyed Tryz.underlying9) Tryz.underlying64 (by unfold maxLen; omega) (WideMaps.keyOf_string_mk Tryz.underlying9 (s := e.name) (by unfold maxLen; omega)) (RB_val e)
          obtain ⟨hP5, hG5⟩ := hP4.drew.map_turn hg5 (put_fit (x := e) hP4.map.rise hown5)
          simp only [Blb.val] at hrun5
          have HP5 : Hid (PSt w5 (w.heap.size + 1) w.heap.size (.slice none 0 0) (putAll (F.take (k + 1))) q []) := hide (by rw [takeB_snoc (unhide HE), putAll_snoc]; exact hP5)
          have HB5 : Hid (Below w.heap.size w w5) := hide ((unhide HB4).grown (w' := w5) ⟨hg5.os, hg5.tape, hg5.output, hg5.size, hg5.block⟩ (unhide HB4).size (fun q hq => by cases hq; exact Nat.le_refl _))
          clear hid hbx3 hbx4 g0 g1 hown5 hg5 hP5 hG5 hP4 hb4 d0 d1 HP3
          go_region
          all_goals
            try go_wp2_with fail
            go_roundw
            case rel =>
              first
                | exact ⟨k + 1, by omega, by go_num, unhide HP5, unhide HB5, HOk⟩
                | ((repeat apply Exists.intro); exact ⟨⟨k + 1, by omega, by go_num, unhide HP5, unhide HB5, HOk⟩, rfl⟩)
            case measure => simp [intOf]; omega
    · have HT : Hid (F.take k = F) := hide (List.take_of_length_le (by have := unhide HN; omega))
      have HF : Hid (FirstBadF F (-1)) := hide (.inl ⟨rfl, fun j hj => unhide HK j (by have := unhide HN; omega)⟩)
      rw [unhide HT] at hP
      obtain ⟨L, hLd⟩ : ∃ L, L = putAll F := ⟨_, rfl⟩
      rw [← hLd] at hP
      have HLd := hide hLd
      have hLl : L.length ≤ 16777216 := by rw [hLd]; exact Nat.le_trans (len_all _) (by have := unhide HN; omega)
      have HLs : Hid (∀ b ∈ L, b.name.size ≤ 16777216 ∧ b.data.size ≤ 16777216) := hide (fun b hb => unhide HS b (mem_all (by rw [← hLd]; exact hb)))
      clear HK hLd
      by_cases hq0 : q < 0
      · go_wp2_with fail
        go_ret2
        exact ⟨_, _, rfl, .inr (.inl ⟨unhide HF, .inl hq0, rfl, rfl⟩), hb⟩
      · by_cases hq1 : 16777216 < q
        · go_wp2_with fail
          go_ret2
          exact ⟨_, _, rfl, .inr (.inl ⟨unhide HF, .inr hq1, rfl, rfl⟩), hb⟩
        · have hNm := names_any (w.heap.size + 1) w.heap.size _ L q [] wr hP (by omega)
          have HP := hide hP
          have HB := hide hb
          have hsl : w.heap.size + 1 < wr.heap.size := hP.lt _ (.inl rfl)
          clear hP hb
          go_upto_region 13 with (go_at_call 42; refine hNm.mono ?_; clear hNm; rintro ev w2 ⟨ao2, cap2, rfl, hNr, hb2, HG2⟩)
          have hP2 := (unhide HP).below hb2
          have hB2 : Below w.heap.size w w2 := (unhide HB).trans (hb2.mono (unhide HB).size)
          obtain ⟨m, hm⟩ : ∃ m, m = L.length := ⟨_, rfl⟩
          rw [← hm]
          rw [← hm] at hLl
          have HM := hide hm
          have HB2 := hide hB2
          clear hm HP HB hB2
          go_wp2
          go_loopw [56] (fun i wq => ∃ (j : Nat) (va : Value), j ≤ m ∧ i = .int .i64 j ∧ PSt wq (w.heap.size + 1) w.heap.size va (remL L (L.take j)) q (remA (L.take j)) ∧ Goes w2 (w.heap.size + 1) w.heap.size (.slice none 0 0) wq va) (fun i _ => m - (intOf i).toNat)
          case atStart => exact ⟨0, _, by omega, rfl, by simpa [remL, remA] using hP2, Goes.of_below (Below.refl _ _)⟩
          case round =>
            obtain ⟨j, va, hj, rfl, hPj, hGj⟩ := hrel
            by_cases hjm : j < m
            · obtain ⟨e, he⟩ : ∃ e, L[j]? = some e := ⟨L[j]'(by have := unhide HM; omega), List.getElem?_eq_getElem (by have := unhide HM; omega)⟩
              obtain ⟨g, o, rfl, c0⟩ := hNr j e he
              have hgg := unhide HG2 g o rfl
              have c0 : wr.cell? ⟨g, o + j, none⟩ = some (.string e.name) := hGj.turn.cell c0 (by
                rintro (e1 | e1 | e1)
                · simp only at e1; omega
                · simp only at e1; omega
                · cases e1)
              have i1 : (0 : Int) ≤ (j : Int) := by omega
              have i2 : (j : Int) < (m : Int) := by omega
              have hse := unhide HLs e (List.mem_of_getElem? he)
              have HTk := hide (takeB_snoc he)
              have hAl : (remA (L.take j)).length ≤ 16777216 := Nat.le_trans (remA_len _) (by rw [List.length_take]; omega)
              clear he
              have hH := Tryz.strings_HasPrefix e.name ⟨#[116, 47]⟩ wr
              cases hT : isT e with
              | true =>
                have HR : Hid (remL L (L.take (j + 1)) = delB (remL L (L.take j)) e.name.data.toList ∧ remA (L.take (j + 1)) = remA (L.take j) ++ [⟨5, e.name, emp, emp⟩]) := hide (by rw [unhide HTk, remL_snoc, remA_snoc, hT]; exact ⟨rfl, rfl⟩)
                rw [show Lib.hasPrefix e.name.data.toList (⟨#[116, 47]⟩ : ByteArray).data.toList = true from hT] at hH
                have hRm := remove_act (w.heap.size + 1) w.heap.size va _ q _ e.name wr hPj (by omega) (by omega)
                have HGj := hide hGj
                clear hT hPj hGj
                go_wp2_with (first | (go_at_call 43; refine hH.mono ?_; clear hH; rintro ev w3 ⟨rfl, rfl⟩) | (go_at_call 44; refine hRm.mono ?_; clear hRm; rintro ev w4 ⟨rfl, v4, hP4, hG4⟩))
                go_roundw
                case rel =>
                  have R : PSt w4 (w.heap.size + 1) w.heap.size v4 (remL L (L.take (j + 1))) q (remA (L.take (j + 1))) := by rw [(unhide HR).1, (unhide HR).2]; exact hP4
                  have R2 := (unhide HGj).trans hG4
                  first
                    | exact ⟨j + 1, v4, by omega, by go_num, R, R2⟩
                    | ((repeat apply Exists.intro); exact ⟨⟨j + 1, v4, by omega, by go_num, R, R2⟩, rfl⟩)
                case measure => simp [intOf]; omega
              | false =>
                have HR : Hid (remL L (L.take (j + 1)) = remL L (L.take j) ∧ remA (L.take (j + 1)) = remA (L.take j)) := hide (by rw [unhide HTk, remL_snoc, remA_snoc, hT]; exact ⟨rfl, rfl⟩)
                rw [show Lib.hasPrefix e.name.data.toList (⟨#[116, 47]⟩ : ByteArray).data.toList = false from hT] at hH
                have HGj := hide hGj
                have HPj := hide hPj
                clear hT hPj hGj
                go_wp2_with (go_at_call 43; refine hH.mono ?_; clear hH; rintro ev w3 ⟨rfl, rfl⟩)
                go_roundw
                case rel =>
                  have R : PSt w3 (w.heap.size + 1) w.heap.size va (remL L (L.take (j + 1))) q (remA (L.take (j + 1))) := by rw [(unhide HR).1, (unhide HR).2]; exact unhide HPj
                  have R2 := unhide HGj
                  first
                    | exact ⟨j + 1, va, by omega, by go_num, R, R2⟩
                    | ((repeat apply Exists.intro); exact ⟨⟨j + 1, va, by omega, by go_num, R, R2⟩, rfl⟩)
                case measure => simp [intOf]; omega
            · have HT2 : Hid (L.take j = L) := hide (List.take_of_length_le (by have := unhide HM; omega))
              rw [unhide HT2] at hPj
              have HPj := hide hPj
              have HGj := hide hGj
              clear hPj hGj
              go_wp2_with fail
              go_ret2
              have hG := unhide HGj
              have hb2 := unhide HB2
              have hz2 := hb2.size
              refine ⟨_, _, rfl, .inr (.inr ⟨unhide HF, ⟨by omega, by omega⟩, rfl, w.heap.size + 1, w.heap.size, va, rfl, ?_, by rw [← unhide HLd]; exact unhide HPj⟩), ?_⟩
              · rintro i (e1 | e1 | e1)
                · omega
                · omega
                · rcases hG.own i e1 with e2 | e2
                  · cases e2
                  · omega
              · refine ⟨hG.turn.os.trans hb2.os, hG.turn.tape.trans hb2.tape, hG.turn.output.trans hb2.output, Nat.le_trans hz2 hG.turn.size, fun i hi => ?_⟩
                refine (hG.turn.block i (by omega) ?_).trans (hb2.block i hi)
                rintro (e1 | e1 | e1)
                · omega
                · omega
                · cases e1
end Go.Proofs.YtabahmnagffnbaaGreatDoor

namespace Go.Proofs.YtabahmnagffnbaaGreatDoor
open Go.RowKit Go.Maps Go.Sort Go.Shelf

theorem all_isN {F : List Blb} (h : FirstBadF F (-1)) : ∀ b ∈ F, isN b.nm = true := fun b hb => by
  obtain ⟨k, hk, rfl⟩ := List.getElem_of_mem hb
  rcases h with ⟨_, h⟩ | ⟨i, e, _⟩
  · have := h k hk
    rw [okF, List.getElem?_eq_getElem hk] at this
    simp only [Bool.and_eq_true] at this
    exact this.1
  · omega
theorem isN_size {l : List UInt8} (h : isN l = true) : l.length = 66 := by
  cases hd : decide (l.length = 66)
  · rw [isN_len (by simpa using hd)] at h; cases h
  · simpa using hd
theorem isT_at {b : Blb} (h : isN b.nm = true) (h0 : 0 < b.name.size) : ((b.name[0].toNat : Int) == 116) = isT b := by
  have hl := isN_size h
  have e : b.nm[0]? = some b.name[0] := by
    rw [List.getElem?_eq_getElem (by rw [hl]; decide)]; rfl
  unfold isT
  match hs : b.nm, h, e with
  | x :: y :: r, h, e =>
    have hx : b.name[0] = x := by simpa using e.symm
    rw [hx, show ((x.toNat : Int) == 116) = (x == 116) from (u8_int x 116 (by decide)).symm]
    have hy : y = 47 := by
      simp only [isN, Bool.and_eq_true] at h
      simpa using h.1.2
    subst hy
    rw [Bool.eq_iff_iff]
    simp only [Lib.hasPrefix, List.isPrefixOf, Bool.and_true, beq_self_eq_true, beq_iff_eq]
    exact ⟨fun h => h.symm, fun h => h.symm⟩
end Go.Proofs.YtabahmnagffnbaaGreatDoor

namespace Go.Proofs.YtabahmnagffnbaaGreatDoor
open Go.RowKit Go.Maps Go.Sort Go.Shelf

theorem below_set {w w' : World} {k i : Nat} {v : Value} (h : Below w.heap.size w w') (hk : w.heap.size ≤ k) : Below w.heap.size w (w'.setCell ⟨k, i, none⟩ v) := h.setCell (p := ⟨k, i, none⟩) hk v
end Go.Proofs.YtabahmnagffnbaaGreatDoor
