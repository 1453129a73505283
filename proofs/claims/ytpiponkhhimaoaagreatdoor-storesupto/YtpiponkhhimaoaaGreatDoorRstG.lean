import Derived.Test.YtpiponkhhimaoaaGreatDoorRstF
namespace Go.Proofs.YtpiponkhhimaoaaGreatDoor
open Go.RowKit Go.Maps

/-- What 'Get' tells. -/
def getV (L : List Blb) (s : ByteArray) : ByteArray × Bool := match getB L (blobN s).data.toList with
  | some b => if sha b.data.data.toList = s.data.toList then (b.data, true) else (nul, false)
  | none => (nul, false)
theorem file_none {L : List Blb} {x : List UInt8} {r : Int} (h : FileIs L x r) (hg : getB L x = none) : r = -1 := by
  rcases h with ⟨e, _⟩ | ⟨k, b, _, _, _, e⟩
  · exact e
  · rw [hg] at e; cases e
theorem file_some {L : List Blb} {x : List UInt8} {r : Int} {b : Blb} (h : FileIs L x r) (hg : getB L x = some b) : ∃ k : Nat, r = k ∧ L[k]? = some b := by
  rcases h with ⟨_, e⟩ | ⟨k, b', e1, e2, _, e⟩
  · rw [hg] at e; cases e
  · rw [hg] at e; cases e; exact ⟨k, e1, e2⟩
set_option maxHeartbeats 1000000 in
set_option maxRecDepth 100000 in
theorem get_any (yb : Nat) (vf va vs : Value) (L : List Blb) (q : Int) (A : List Ac) (N : List Blb) (c : Bool) (s : ByteArray) (w : World) (h : RSt w yb vf va vs L q A N c) (hL : L.length ≤ 1099511627) (hs : s.size ≤ 1048576) (hd : ∀ b ∈ L, b.data.size ≤ 1073741824) :
    Calls Tryz.prog 15 #[.pointer (some ⟨yb, 0, none⟩), .string s] w fun ev w' => ev = .returned (.tuple #[.string (getV L s).1, .bool (getV L s).2]) ∧ Below w.heap.size w w' := by
  have c0 : w.cell? ⟨yb, 0, none⟩ = some vf := cell_of_row _ _ 0 _ _ _ h.cells
  obtain ⟨ao, cap, n, rfl, hn, hr, hcap⟩ := ownB_row h.files
  have HN := hide hn
  have hn' : n ≤ 1099511627 := by omega
  have hF := file_any ao cap n L (blobN s) w hr HN (by omega)
  clear h hn
  cases hg : getB L (blobN s).data.toList with
  | none =>
    have e : getV L s = (nul, false) := by rw [getV, hg]
    rw [e]
    have HG := hide hg
    clear e hg
    go_enter Tryz.func15, Tryz.ntmps15
    go_wp2_with (go_at_call 29; refine hF.mono ?_; clear hF; rintro ev w2 ⟨r, rfl, HF, rfl⟩; obtain rfl := file_none (unhide HF) (unhide HG))
    go_ret2
    exact ⟨rfl, Below.refl _ _⟩
  | some b =>
    have HG := hide hg
    have hbd := hd b (get_some hg).1
    by_cases hq : sha b.data.data.toList = s.data.toList
    · have e : getV L s = (b.data, true) := by rw [getV, hg]; exact if_pos hq
      have g1 : (sha b.data.data.toList == s.toList) = true := by rw [dec_eq]; simpa using hq
      rw [e]
      clear e hg hq
      go_enter Tryz.func15, Tryz.ntmps15
      go_wp2_with (first
        | (go_at_call 29; refine hF.mono ?_; clear hF; rintro ev w2 ⟨r, rfl, HF, rfl⟩; obtain ⟨k, rfl, hk⟩ := file_some (unhide HF) (unhide HG); have hkn : k < n := (by rw [unhide HN]; exact (List.getElem?_eq_some_iff.1 hk).1); obtain ⟨g, o, rfl, d0, d1⟩ := hr k b hk; have i1 : (0 : Int) ≤ (k : Int) := (by omega); have i2 : (k : Int) < (n : Int) := (by omega); clear hk)
        | (go_at_call 38; refine (digest_any b.data hbd _).mono ?_; rintro ev w3 ⟨rfl, hb3⟩; have c0 := cell_later hb3 c0; have d1 := cell_later hb3 d1))
      go_ret2
      exact ⟨rfl, hb3⟩
    · have e : getV L s = (nul, false) := by rw [getV, hg]; exact if_neg hq
      have g1 : (sha b.data.data.toList == s.toList) = false := by rw [dec_eq]; simpa using hq
      rw [e]
      clear e hg hq
      go_enter Tryz.func15, Tryz.ntmps15
      go_wp2_with (first
        | (go_at_call 29; refine hF.mono ?_; clear hF; rintro ev w2 ⟨r, rfl, HF, rfl⟩; obtain ⟨k, rfl, hk⟩ := file_some (unhide HF) (unhide HG); have hkn : k < n := (by rw [unhide HN]; exact (List.getElem?_eq_some_iff.1 hk).1); obtain ⟨g, o, rfl, d0, d1⟩ := hr k b hk; have i1 : (0 : Int) ≤ (k : Int) := (by omega); have i2 : (k : Int) < (n : Int) := (by omega); clear hk)
        | (go_at_call 38; refine (digest_any b.data hbd _).mono ?_; rintro ev w3 ⟨rfl, hb3⟩; have c0 := cell_later hb3 c0; have d1 := cell_later hb3 d1))
      go_ret2
      exact ⟨rfl, hb3⟩
set_option maxRecDepth 100000 in
theorem drop_any (yb : Nat) (vf va vs : Value) (L : List Blb) (q : Int) (A : List Ac) (N : List Blb) (c : Bool) (s : ByteArray) (w : World) (h : RSt w yb vf va vs L q A N c) (hA : A.length ≤ 1099511627) (hL : L.length ≤ 1099511627) :
    Calls Tryz.prog 18 #[.pointer (some ⟨yb, 0, none⟩), .string s] w fun ev w' => (getB L s.data.toList = none ∧ ev = .returned (.bool false) ∧ w' = w) ∨ ((getB L s.data.toList).isSome = true ∧ ev = .returned (.bool true) ∧ KeepIs w yb vf va vs (delB L s.data.toList) q (A ++ [⟨5, s, nul, nul⟩]) N c w') := by
  have c0 : w.cell? ⟨yb, 0, none⟩ = some vf := cell_of_row _ _ 0 _ _ _ h.cells
  have HP := hide h
  obtain ⟨ao, cap, n, rfl, hn, hr, hcap⟩ := ownB_row h.files
  have HN := hide hn
  have hn' : n ≤ 1099511627 := by omega
  have hF := file_any ao cap n L s w hr HN (by omega)
  clear h hn
  cases hg : getB L s.data.toList with
  | none =>
    have HG := hide hg
    clear hg
    go_enter Tryz.func18, Tryz.ntmps18
    go_wp2_with (go_at_call 29; refine hF.mono ?_; clear hF; rintro ev w2 ⟨r, rfl, HF, rfl⟩; obtain rfl := file_none (unhide HF) (unhide HG))
    go_ret
    exact .inl ⟨by simp, rfl, rfl⟩
  | some b =>
    have HG := hide hg
    clear hg
    go_enter Tryz.func18, Tryz.ntmps18
    go_wp2_with (first
      | (go_at_call 29; refine hF.mono ?_; clear hF; rintro ev w2 ⟨r, rfl, HF, rfl⟩; obtain ⟨k, rfl, hk⟩ := file_some (unhide HF) (unhide HG); have i1 : (0 : Int) ≤ (k : Int) := (by omega); clear hk HF)
      | (go_at_call 32; refine (do_any yb _ va vs L _ q A N c ⟨5, s, nul, nul⟩ _ (unhide HP) (by omega) (done_remove (unhide HP).files hL s)).mono ?_; rintro ev w3 ⟨rfl, vf1, va1, hP1, hG1⟩))
    go_ret
    exact .inr ⟨rfl, rfl, vf1, va1, hP1, hG1⟩
theorem told_any (yb : Nat) (vf va vs : Value) (L : List Blb) (q : Int) (A : List Ac) (N : List Blb) (c : Bool) (w : World) (h : RSt w yb vf va vs L q A N c) :
    Calls Tryz.prog 25 #[.pointer (some ⟨yb, 0, none⟩)] w fun ev w' => ev = .returned va ∧ RSt w' yb vf (.slice none 0 0) vs L q [] N c ∧ w' = w.setCell ⟨yb, 2, none⟩ (.slice none 0 0) := by
  have c2 : w.cell? ⟨yb, 2, none⟩ = some va := cell_of_row _ _ 2 _ _ _ h.cells
  have f2 : w.frozen? ⟨yb, 2, none⟩ = false := by simp [World.frozen?, h.cells]
  have hoth : ∀ k, k ≠ yb → (w.setCell ⟨yb, 2, none⟩ (.slice none 0 0)).heap[k]? = w.heap[k]? := fun k hk => Below.heap_setCell _ _ _ _ hk
  have HQ : Hid (RSt (w.setCell ⟨yb, 2, none⟩ (.slice none 0 0)) yb vf (.slice none 0 0) vs L q [] N c) := hide ⟨heap_setCell_same _ _ 2 _ _ _ h.cells, row_turn h.files fun k hk => hoth k (fun e => h.yf (e ▸ hk)), World.ownsRow_nil _ _ _ _, row_turn h.seen fun k hk => hoth k (fun e => h.ys (e ▸ hk)), h.apart⟩
  clear h hoth
  go_enter Tryz.func25, Tryz.ntmps25
  go_wp2_with fail
  go_ret
  exact ⟨rfl, unhide HQ, rfl⟩
/-- The names of blobs. -/
theorem ba_ext {a b : ByteArray} (h : a.data.toList = b.data.toList) : a = b := by
  cases a; cases b
  simpa using h
theorem aside_blob (x : ByteArray) : asideN (blobN x) = asideR (blobN x) := by
  apply ba_ext
  have e : (⟨#[98, 47]⟩ : ByteArray).size = 2 := rfl
  simp [asideN, asideR, blobN, e]
  rw [show 1 + x.size = x.size + 1 from by omega, List.take_succ_cons]
  simp
theorem del_put {M : List Blb} {b : Blb} {x : List UInt8} (h : b.nm ≠ x) : delB (putB M b) x = putB (delB M x) b := by
  unfold delB putB
  rw [List.filter_append, List.filter_cons_of_pos (by simpa using h), List.filter_filter, List.filter_filter, List.filter_filter, List.filter_filter]
  congr 1
  · exact List.filter_congr fun z _ => Bool.and_comm _ _
  · congr 1
    exact List.filter_congr fun z _ => Bool.and_comm _ _
theorem keep_blob (L : List Blb) (x d : ByteArray) : keepL L (blobN x) d = keepR L (blobN x) d := by
  rw [keepL, keepR, del_put, aside_blob]
  intro e
  simp only [Blb.nm] at e
  rw [blobN_bytes, aside_blob] at e
  simp [asideR, blobN] at e
theorem keepA_blob (x d : ByteArray) : keepA (blobN x) d = keepB (blobN x) d := by rw [keepA, keepB, aside_blob]
/-- What 'Put' does. -/
def PutIs (w : World) (yb : Nat) (vf va vs : Value) (L' : List Blb) (q : Int) (A' : List Ac) (N : List Blb) (w' : World) : Prop := ∃ vf' va' vs' N' c', RSt w' yb vf' va' vs' L' q A' N' c' ∧ RGoes w yb vf va vs w' vf' va' vs' ∧ N'.length ≤ N.length + 1
/-- The digest of a text. -/
def dig (d : ByteArray) : ByteArray := ⟨(sha d.data.toList).toArray⟩
theorem dig_size (d : ByteArray) : (dig d).size = 64 := by
  show (sha d.data.toList).toArray.size = 64
  rw [List.size_toArray, sha_len]
set_option maxHeartbeats 1000000 in
set_option maxRecDepth 100000 in
theorem put_any (yb : Nat) (vf va vs : Value) (L : List Blb) (q : Int) (A : List Ac) (N : List Blb) (c : Bool) (d : ByteArray) (w : World) (h : RSt w yb vf va vs L q A N c) (hR : Rise L) (hA : A.length ≤ 1099511627) (hL : L.length ≤ 109951162) (hN : N.length ≤ 1099511627) (hd : d.size ≤ 1073741824) (hds : ∀ b ∈ L, b.data.size ≤ 1073741824) (hz : szL L ≤ 1099511627776) :
    Calls Tryz.prog 12 #[.pointer (some ⟨yb, 0, none⟩), .string d] w fun ev w' =>
      ((getV L (dig d)).2 = true ∧ ev = .returned (.tuple #[.string (dig d), .bool true]) ∧ PutIs w yb vf va vs L q A N w') ∨
      ((getV L (dig d)).2 = false ∧ (szL (delB L (blobN (dig d)).data.toList) + d.size : Nat) > q ∧ ev = .returned (.tuple #[.string nul, .bool false]) ∧ PutIs w yb vf va vs L q A N w') ∨
      ((getV L (dig d)).2 = false ∧ (szL (delB L (blobN (dig d)).data.toList) + d.size : Nat) ≤ q ∧ ev = .returned (.tuple #[.string (dig d), .bool true]) ∧ PutIs w yb vf va vs (keepR L (blobN (dig d)) d) q (A ++ keepB (blobN (dig d)) d) N w') := by
  have hM : Calls Tryz.prog 35 #[.pointer (some ⟨yb, 0, none⟩), .string d] w (fun ev w' => ev = .returned (.string (dig d)) ∧ MarkIs w yb vf va vs L q A N w') := mark_any yb vf va vs L q A N c d w h hN hd
  have hsz := dig_size d
  have hbs : (blobN (dig d)).size = 66 := by rw [blobN, ByteArray.size_append, dig_size]; rfl
  clear h
  go_enter Tryz.func12, Tryz.ntmps12
  go_upto_region 2 with (go_at_call 35; refine hM.mono ?_; clear hM; rintro ev w1 ⟨rfl, HM⟩)
  obtain ⟨vs1, N1, c1, hP1, hG1, hl1⟩ := HM
  have hgt := get_any yb vf va vs1 L q A N1 c1 (dig d) w1 hP1 (by omega) (by rw [dig_size]; omega) hds
  have HP1 := hide hP1
  have HG1 := hide hG1
  clear hP1 hG1
  cases hv : (getV L (dig d)).2 with
  | true =>
    rw [hv] at hgt
    go_wp2_with (go_at_call 15; refine hgt.mono ?_; clear hgt; rintro ev w2 ⟨rfl, hb2⟩)
    go_ret2
    exact .inl ⟨hv, rfl, _, _, _, _, _, (unhide HP1).below hb2, (unhide HG1).trans (RGoes.of_below hb2), hl1⟩
  | false =>
    rw [hv] at hgt
    by_cases hgq : q < ((szL (delB L (blobN (dig d)).data.toList) + d.size : Nat) : Int)
    · have hK : ∀ w2, RSt w2 yb vf va vs1 L q A N1 c1 → Calls Tryz.prog 36 #[.pointer (some ⟨yb, 0, none⟩), .string (blobN (dig d)), .string d] w2 fun ev w' => ev = .returned (.bool false) ∧ w' = w2 := fun w2 h2 =>
        (keep_any yb vf va vs1 L q A N1 c1 (blobN (dig d)) d w2 h2 hR hA hL (by omega) (by omega) hd hz).mono (fun ev w' h => by
          rcases h with ⟨_, e1, e2⟩ | ⟨hle, _⟩
          · exact ⟨e1, e2⟩
          · omega)
      have HGQ := hide hgq
      clear hgq
      go_wp2_with (first
        | (go_at_call 15; refine hgt.mono ?_; clear hgt; rintro ev w2 ⟨rfl, hb2⟩)
        | (go_at_call 36; refine (hK _ ((unhide HP1).below hb2)).mono ?_; clear hK; rintro ev w3 ⟨rfl, rfl⟩))
      go_ret2
      exact .inr (.inl ⟨hv, unhide HGQ, rfl, _, _, _, _, _, (unhide HP1).below hb2, (unhide HG1).trans (RGoes.of_below hb2), hl1⟩)
    · have hK : ∀ w2, RSt w2 yb vf va vs1 L q A N1 c1 → Calls Tryz.prog 36 #[.pointer (some ⟨yb, 0, none⟩), .string (blobN (dig d)), .string d] w2 fun ev w' => ev = .returned (.bool true) ∧ KeepIs w2 yb vf va vs1 (keepR L (blobN (dig d)) d) q (A ++ keepB (blobN (dig d)) d) N1 c1 w' := fun w2 h2 =>
        (keep_any yb vf va vs1 L q A N1 c1 (blobN (dig d)) d w2 h2 hR hA hL (by omega) (by omega) hd hz).mono (fun ev w' h => by
          rcases h with ⟨hle, _⟩ | ⟨_, e1, e2⟩
          · omega
          · exact ⟨e1, e2⟩)
      have HGQ : Hid (((szL (delB L (blobN (dig d)).data.toList) + d.size : Nat) : Int) ≤ q) := hide (by omega)
      clear hgq
      go_wp2_with (first
        | (go_at_call 15; refine hgt.mono ?_; clear hgt; rintro ev w2 ⟨rfl, hb2⟩)
        | (go_at_call 36; refine (hK _ ((unhide HP1).below hb2)).mono ?_; clear hK; rintro ev w3 ⟨rfl, hk3⟩))
      go_ret2
      obtain ⟨vf3, va3, hP3, hG3⟩ := hk3
      exact .inr (.inr ⟨hv, unhide HGQ, rfl, _, _, _, _, _, hP3, (unhide HG1).trans ((RGoes.of_below hb2).trans hG3), hl1⟩)
end Go.Proofs.YtpiponkhhimaoaaGreatDoor
