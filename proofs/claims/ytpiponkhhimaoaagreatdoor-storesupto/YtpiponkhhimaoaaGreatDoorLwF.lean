import Derived.Test.YtpiponkhhimaoaaGreatDoorLwE
namespace Go.Proofs.YtpiponkhhimaoaaGreatDoor
open Go.RowKit Go.Maps Go.Sort Go.Shelf

theorem hexd_ok : ∀ n : Fin 16, hexB (hexd n.val) = true := by decide +kernel
theorem sha_hex (l : List UInt8) : (sha l).all hexB = true := by
  rw [List.all_eq_true]
  intro c hc
  rw [sha, hexs] at hc
  obtain ⟨x, hx, hc⟩ := List.mem_flatten.1 hc
  obtain ⟨y, _, rfl⟩ := List.mem_map.1 hx
  rw [hexW] at hc
  obtain ⟨i, _, rfl⟩ := List.mem_map.1 hc
  exact hexd_ok ⟨_, Nat.mod_lt _ (by decide)⟩
theorem isN_blob (d : ByteArray) : isN (Blb.nm ⟨blobN (dig d), d⟩) = true := by
  have e : Blb.nm ⟨blobN (dig d), d⟩ = 98 :: 47 :: sha d.data.toList := by
    show (blobN (dig d)).data.toList = _
    rw [blobN_bytes]
    simp [dig]
  rw [e]
  simp [isN, isDig, sha_len]
  simpa using sha_hex d.data.toList
/-- Files as a store of the law has them. -/
structure Good (L : List Blb) (n : Nat) : Prop where
  rise : Rise L
  names : ∀ b ∈ L, isN b.nm = true
  data : ∀ b ∈ L, b.data.size ≤ 16777216
  sz : szL L ≤ 16777216
  len : L.length ≤ n
theorem Good.size {L : List Blb} {n : Nat} (h : Good L n) {b : Blb} (hb : b ∈ L) : b.name.size = 66 := (Lib.size_eq _).trans (isN_size (h.names b hb))
theorem Good.mono {L : List Blb} {n m : Nat} (h : Good L n) (hm : n ≤ m) : Good L m := ⟨h.rise, h.names, h.data, h.sz, Nat.le_trans h.len hm⟩
theorem szL_put {L : List Blb} (hL : Rise L) (b : Blb) : szL (putB L b) = szL (delB L b.nm) + b.data.size := by
  rw [putB, del_split hL, szL_append, szL_append, szL_cons]; omega
theorem szL_del_le (L : List Blb) (x : List UInt8) : szL (delB L x) ≤ szL L := by
  have := szL_le_del L x L.length
  rwa [List.take_length] at this
theorem del_put_same {L : List Blb} (hL : Rise L) (b : Blb) : delB (putB L b) b.nm = delB L b.nm := by
  rw [del_split hL, delB, putB, List.filter_append, List.filter_cons_of_neg (by simp), List.filter_filter, List.filter_filter]
  congr 1
  · refine List.filter_congr fun z _ => ?_
    cases h : Op.bytesLess z.nm b.nm
    · simp
    · simpa using fl_ne h
  · refine List.filter_congr fun z _ => ?_
    cases h : Op.bytesLess b.nm z.nm
    · simp
    · simpa using (fl_ne h).symm
theorem keepR_eq {L : List Blb} (hL : Rise L) (s d : ByteArray) : keepR L s d = putB (delB L (asideR s).data.toList) ⟨s, d⟩ := by
  rw [keepR, show (asideR s).data.toList = Blb.nm ⟨asideR s, d⟩ from rfl, del_put_same hL]
theorem del_comm (L : List Blb) (x y : List UInt8) : delB (delB L x) y = delB (delB L y) x := by
  unfold delB
  rw [List.filter_filter, List.filter_filter]
  exact List.filter_congr fun z _ => Bool.and_comm _ _
theorem Good.kept {L : List Blb} {n : Nat} (h : Good L n) {q : Int} {d : ByteArray} (hd : d.size ≤ 16777216) (hq : ((szL (delB L (blobN (dig d)).data.toList) + d.size : Nat) : Int) ≤ q) (hq2 : q ≤ 16777216) : Good (keepR L (blobN (dig d)) d) (n + 1) := by
  have e := keepR_eq h.rise (blobN (dig d)) d
  have hr := rise_del h.rise (asideR (blobN (dig d))).data.toList
  have hm : ∀ b ∈ keepR L (blobN (dig d)) d, b = ⟨blobN (dig d), d⟩ ∨ b ∈ L := fun b hb => by
    rw [e] at hb
    rcases put_mem hb with hb | hb
    · exact .inl hb
    · exact .inr (List.mem_filter.1 hb).1
  refine ⟨?_, ?_, ?_, ?_, ?_⟩
  · rw [e]; exact rise_put hr _
  · intro b hb
    rcases hm b hb with rfl | hb
    · exact isN_blob d
    · exact h.names b hb
  · intro b hb
    rcases hm b hb with rfl | hb
    · exact hd
    · exact h.data b hb
  · rw [e, szL_put hr, del_comm]
    have := szL_del_le (delB L (Blb.nm ⟨blobN (dig d), d⟩)) (asideR (blobN (dig d))).data.toList
    have h2 : szL (delB L (Blb.nm ⟨blobN (dig d), d⟩)) = szL (delB L (blobN (dig d)).data.toList) := rfl
    show szL (delB (delB L (Blb.nm ⟨blobN (dig d), d⟩)) (asideR (blobN (dig d))).data.toList) + d.size ≤ _
    omega
  · rw [e, put_len _ hr]
    have h1 := del_len (delB L (asideR (blobN (dig d))).data.toList) (Blb.nm ⟨blobN (dig d), d⟩)
    have h2 := del_len L (asideR (blobN (dig d))).data.toList
    have h3 := h.len
    omega
theorem Good.dropped {L : List Blb} {n : Nat} (h : Good L n) (x : List UInt8) : Good (delB L x) n :=
  ⟨rise_del h.rise x, fun b hb => h.names b (List.mem_filter.1 hb).1, fun b hb => h.data b (List.mem_filter.1 hb).1, Nat.le_trans (szL_del_le L x) h.sz, Nat.le_trans (del_len L x) h.len⟩
theorem rise_rem {L M : List Blb} (h : Rise L) : Rise (remL L M) := by
  have hh : ∀ (M L : List Blb), Rise L → Rise (M.foldl (fun X b => if isT b then delB X b.nm else X) L) := fun M => by
    induction M with
    | nil => exact fun L h => h
    | cons b r ih =>
      intro L h
      refine ih _ ?_
      dsimp only
      split
      · exact rise_del h _
      · exact h
  exact hh M L h
theorem szL_rem (L M : List Blb) : szL (remL L M) ≤ szL L := by
  have hh : ∀ (M L : List Blb), szL (M.foldl (fun X b => if isT b then delB X b.nm else X) L) ≤ szL L := fun M => by
    induction M with
    | nil => exact fun L => Nat.le_refl _
    | cons b r ih =>
      intro L
      refine Nat.le_trans (ih _) ?_
      dsimp only
      split
      · exact szL_del_le L _
      · exact Nat.le_refl _
  exact hh M L
theorem szL_all (F : List Blb) : szL (putAll F) ≤ szL F := by
  have hh : ∀ (F L : List Blb), Rise L → szL (F.foldl putB L) ≤ szL F + szL L := fun F => by
    induction F with
    | nil => exact fun L _ => by simp [szL]
    | cons b r ih =>
      intro L hL
      have h1 := ih (putB L b) (rise_put hL b)
      have h2 := szL_put hL b
      have h3 := szL_del_le L b.nm
      rw [List.foldl_cons, szL_cons]
      omega
  have := hh F [] List.Pairwise.nil
  simpa [putAll, szL] using this
theorem Good.opened {F : List Blb} {n : Nat} (hF : FirstBadF F (-1)) (hd : ∀ b ∈ F, b.data.size ≤ 16777216) (hz : szL F ≤ 16777216) (hn : F.length ≤ n) : Good (remL (putAll F) (putAll F)) n :=
  ⟨rise_rem (rise_all F), fun b hb => all_isN hF b (mem_all (remL_mem hb)), fun b hb => hd b (mem_all (remL_mem hb)), Nat.le_trans (szL_rem _ _) (Nat.le_trans (szL_all F) hz), Nat.le_trans (remL_len _ _) (Nat.le_trans (len_all F) hn)⟩
/-- Acts as the law has them. -/
def GoodA (A : List Ac) (n : Nat) : Prop := A.length ≤ n ∧ ∀ a ∈ A, a.name.size ≤ 16777216 ∧ a.dest.size ≤ 16777216 ∧ a.data.size ≤ 16777216
theorem goodA_nil (n : Nat) : GoodA [] n := ⟨Nat.zero_le _, fun a ha => by simp at ha⟩
theorem goodA_rem {F : List Blb} {n : Nat} (hF : FirstBadF F (-1)) (hn : F.length ≤ n) : GoodA (remA (putAll F)) n := by
  refine ⟨Nat.le_trans (remA_len _) (Nat.le_trans (len_all F) hn), fun a ha => ?_⟩
  rw [remA] at ha
  obtain ⟨b, hb, rfl⟩ := List.mem_map.1 ha
  have := isN_size (all_isN hF b (mem_all (List.mem_filter.1 hb).1))
  have h66 : b.name.size = 66 := (Lib.size_eq _).trans this
  exact ⟨by show b.name.size ≤ _; omega, Nat.zero_le _, Nat.zero_le _⟩
theorem goodA_keep {d : ByteArray} (hd : d.size ≤ 16777216) : GoodA (keepB (blobN (dig d)) d) 4 := by
  have h66 : (blobN (dig d)).size = 66 := by rw [blobN, ByteArray.size_append, dig_size]; rfl
  have h2 : (asideR (blobN (dig d))).size ≤ 16777216 := by
    simp only [asideR, ByteArray.size_append, ByteArray.size_extract]
    have : (⟨#[116]⟩ : ByteArray).size = 1 := rfl
    omega
  have h0 : (nul : ByteArray).size = 0 := rfl
  refine ⟨Nat.le_refl _, fun a ha => ?_⟩
  simp only [keepB, List.mem_cons, List.not_mem_nil, or_false] at ha
  rcases ha with rfl | rfl | rfl | rfl
  · exact ⟨h2, by show (nul : ByteArray).size ≤ _; omega, hd⟩
  · exact ⟨h2, by show (nul : ByteArray).size ≤ _; omega, by show (nul : ByteArray).size ≤ _; omega⟩
  · exact ⟨h2, by show (blobN (dig d)).size ≤ _; omega, by show (nul : ByteArray).size ≤ _; omega⟩
  · exact ⟨by show (nul : ByteArray).size ≤ _; omega, by show (nul : ByteArray).size ≤ _; omega, by show (nul : ByteArray).size ≤ _; omega⟩
theorem goodA_drop {s : ByteArray} (hs : s.size ≤ 1048576) : GoodA [⟨5, s, nul, nul⟩] 1 := by
  refine ⟨Nat.le_refl _, fun a ha => ?_⟩
  simp only [List.mem_cons, List.not_mem_nil, or_false] at ha
  subst ha
  exact ⟨by show s.size ≤ _; omega, Nat.zero_le _, Nat.zero_le _⟩
end Go.Proofs.YtpiponkhhimaoaaGreatDoor
