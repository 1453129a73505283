import Derived.Test.YtjofjcjojgpaeaaGreatDoorJUnpG
namespace Go.Proofs.YtjofjcjojgpaeaaGreatDoor
open Go.RowKit

/-- What comes next in an archive. -/
def NextIs (cs : List Ent) (s : List UInt8) (c : Ent) (behind : List UInt8) (ok : Bool) : Prop :=
  (ok = true ∧ mayF cs c = true ∧ s = entryL c ++ behind) ∨ (ok = false ∧ ∀ c', mayF cs c' = true → ¬ entryL c' <+: s)
theorem mayF_ch {cs : List Ent} {c : Ent} (h : mayF cs c = true) : chOk c = true := by
  unfold mayF at h
  simp only [Bool.and_eq_true] at h
  exact h.1.2
theorem next_no {cs : List Ent} {s : List UInt8} {c : Ent} (hr : ReadIs s c) (hm : mayF cs c = false) (b : List UInt8) (d : Ent) : NextIs cs s d b false :=
  .inr ⟨rfl, fun c' h ⟨r, e⟩ => by
    have := hr.back c' r (mayF_ch h) e.symm
    rw [this, h] at hm; cases hm⟩
theorem next_part {cs : List Ent} {s : List UInt8} {c : Ent} (hr : ReadIs s c) (hp : Lib.hasPrefix s (entryL c) = false) (b : List UInt8) (d : Ent) : NextIs cs s d b false :=
  .inr ⟨rfl, fun c' h ⟨r, e⟩ => by
    have := hr.back c' r (mayF_ch h) e.symm
    rw [this, Lib.hasPrefix, ← e] at hp
    have h2 : (entryL c').isPrefixOf (entryL c' ++ r) = true := by rw [List.isPrefixOf_iff_prefix]; exact List.prefix_append _ _
    rw [h2] at hp; cases hp⟩
theorem next_yes {cs : List Ent} {s : List UInt8} {c : Ent} (hm : mayF cs c = true) (hp : Lib.hasPrefix s (entryL c) = true) : NextIs cs s c (Lib.trimPrefix s (entryL c)) true := by
  refine .inl ⟨rfl, hm, ?_⟩
  rw [Lib.trimPrefix, hp]
  rw [Lib.hasPrefix, List.isPrefixOf_iff_prefix] at hp
  obtain ⟨r, e⟩ := hp
  rw [← e]; simp
/-- What 'next' answers. -/
def NextEv (cs : List Ent) (s : List UInt8) (v : Value) : Prop := ∃ (c : Ent) (b : ByteArray) (ok : Bool), v = .tuple #[.agg #[.string c.path, .int .i64 c.kind, .int .i64 c.mode, .string c.data], .string b, .bool ok] ∧ NextIs cs s c b.data.toList ok
set_option maxHeartbeats 2000000 in
set_option maxRecDepth 10000 in
theorem next_any (ao : Option Addr) (cap k : Nat) (cs : List Ent) (s : ByteArray) (w : World) (hr : ERow w ao cs) (HN : Hid (k = cs.length)) (hk : k ≤ 1048576) (HS : Hid (Small cs)) (hR : Rd w) (hs : s.size ≤ 281474976710656) :
    Calls Tryz.prog 59 #[.slice ao k cap, .string s] w fun ev w' => ∃ v, ev = .returned v ∧ Hid (NextEv cs s.data.toList v) ∧ Below w.heap.size w w' := by
  obtain ⟨W0, hW0⟩ : ∃ W0, W0 = w.alloc (.cells #[.string ⟨#[]⟩, .int .i64 0, .int .i64 0, .string ⟨#[]⟩] 37) := ⟨_, rfl⟩
  have hB0 : Below w.heap.size w W0 := by rw [hW0]; exact (Below.refl _ _).alloc (Nat.le_refl _) _
  have hq0 : W0.heap[w.heap.size]? = some (.cells #[.string ⟨#[]⟩, .int .i64 0, .int .i64 0, .string ⟨#[]⟩] 37 (0, 0)) := by rw [hW0]; exact heap_alloc_new _ _
  have HRd := hide (read_any s W0 (hR.below hB0) hs)
  have HR0 := hide (hR.below hB0)
  have HE0 := hide (hr.below hB0)
  have HQ0 := hide hq0
  have HW0 := hide hW0
  clear hr hR hq0 hW0
  go_enter Tryz.func59, Tryz.ntmps59
  go_upto_region 1 with fail
  rw [← unhide HW0]
  clear HW0
  go_upto_region 2 with (go_at_call 87; refine (unhide HRd).mono ?_; rintro ev w1 ⟨c, rfl, HC, hb1⟩)
  obtain ⟨W1, hW1⟩ : ∃ W1, W1 = w1.alloc (.cells #[.string c.path, .int .i64 c.kind, .int .i64 c.mode, .string c.data] 37) := ⟨_, rfl⟩
  rw [← hW1]
  have hb1' : Below w1.heap.size w1 W1 := by rw [hW1]; exact (Below.refl _ _).alloc (Nat.le_refl _) _
  have hB01 : Below W0.heap.size W0 W1 := hb1.trans (hb1'.mono hb1.size)
  have hq := (by rw [hW1]; exact heap_alloc_new _ _ : W1.heap[w1.heap.size]? = some (.cells #[.string c.path, .int .i64 c.kind, .int .i64 c.mode, .string c.data] 37 (0, 0)))
  have hz := keepC_below hB01 _ _ _ _ (unhide HQ0)
  have hlt0 : w.heap.size < w1.heap.size := Nat.lt_of_lt_of_le (Array.getElem?_eq_some_iff.1 (unhide HQ0)).1 hb1.size
  have hB1 : Below w.heap.size w W1 := hB0.trans (hB01.mono hB0.size)
  have hR1 := (unhide HR0).below hB01
  obtain ⟨m, hm⟩ := hR1.pk.max
  have HMF := hide (mayFollow_any ao cap k cs c m W1 ((unhide HE0).below hB01) HN hk HS (unhide HC).path hm)
  have q0 : W1.cell? ⟨w1.heap.size, 0, none⟩ = some (.string c.path) := cell_of_row _ _ 0 _ _ _ hq
  have q1 : W1.cell? ⟨w1.heap.size, 1, none⟩ = some (.int .i64 c.kind) := cell_of_row _ _ 1 _ _ _ hq
  have q2 : W1.cell? ⟨w1.heap.size, 2, none⟩ = some (.int .i64 c.mode) := cell_of_row _ _ 2 _ _ _ hq
  have q3 : W1.cell? ⟨w1.heap.size, 3, none⟩ = some (.string c.data) := cell_of_row _ _ 3 _ _ _ hq
  have HHq := hide hq
  have HHz := hide hz
  have HR1 := hide hR1
  clear hW1 hb1' hB01 hb1 hq hz hm hR1 HR0 HE0 HQ0 HRd hB0
  cases hF : mayF cs c with
  | false =>
    rw [hF] at HMF
    have HF : Hid (NextIs cs s.data.toList ⟨⟨#[]⟩, 0, 0, ⟨#[]⟩⟩ (⟨#[]⟩ : ByteArray).data.toList false) := hide (next_no (unhide HC) hF _ _)
    clear hF
    go_wp2_with (go_at_call 77; refine (unhide HMF).mono ?_; rintro ev w2 ⟨rfl, hb2⟩; have hB2 : Below w.heap.size w w2 := (hB1.trans (hb2.mono hB1.size)); have hz := keepC_below hb2 _ _ _ _ (unhide HHz); have z0 : w2.cell? ⟨w.heap.size, 0, none⟩ = some (.string ⟨#[]⟩) := cell_of_row _ _ 0 _ _ _ hz; have z1 : w2.cell? ⟨w.heap.size, 1, none⟩ = some (.int .i64 0) := cell_of_row _ _ 1 _ _ _ hz; have z2 : w2.cell? ⟨w.heap.size, 2, none⟩ = some (.int .i64 0) := cell_of_row _ _ 2 _ _ _ hz; have z3 : w2.cell? ⟨w.heap.size, 3, none⟩ = some (.string ⟨#[]⟩) := cell_of_row _ _ 3 _ _ _ hz; have y0 := frz hz 0; have y1 := frz hz 1; have y2 := frz hz 2; have y3 := frz hz 3; clear hz)
    exact bodyPost_ret (v := .tuple #[.agg #[.string ⟨#[]⟩, .int .i64 0, .int .i64 0, .string ⟨#[]⟩], .string ⟨#[]⟩, .bool false]) (by simp [results, Tryz.results59, go_sem, z0, z1, z2, z3]) rfl ⟨_, rfl, hide ⟨⟨⟨#[]⟩, 0, 0, ⟨#[]⟩⟩, ⟨#[]⟩, false, rfl, unhide HF⟩, below_z4 hB2⟩
  | true =>
    rw [hF] at HMF
    have hch := mayF_ch hF
    have hG := pkg_of hch
    obtain ⟨m, hm⟩ := hG.pkc
    have HWr : Hid (∀ w2 : World, Rd w2 → Calls Tryz.prog 56 #[.agg #[.string c.path, .int .i64 c.kind, .int .i64 c.mode, .string c.data]] w2 fun ev w' => ev = .returned (.string (bt (entryL c))) ∧ Below w2.heap.size w2 w') := hide (fun w2 hR2 => written_any c m w2 (hide hm) hR2.pk hG.kind hG.part)
    have HEl := hide (entry_len hm)
    have HMy := hide hF
    have HDs : Hid (c.data.size ≤ 1048576) := hide (by have := hm.data; omega)
    obtain ⟨T, hT⟩ : ∃ T, T = bt (entryL c) := ⟨_, rfl⟩
    have HT := hide hT
    rw [← hT] at HWr
    clear hF hch hG hm hT
    go_upto_region 5 with (first
      | (go_at_call 77; refine (unhide HMF).mono ?_; rintro ev w2 ⟨rfl, hb2⟩; have hB2 : Below w.heap.size w w2 := (hB1.trans (hb2.mono hB1.size)); have hq := keepC_below hb2 _ _ _ _ (unhide HHq); have q0 : w2.cell? ⟨w1.heap.size, 0, none⟩ = some (.string c.path) := cell_of_row _ _ 0 _ _ _ hq; have q1 : w2.cell? ⟨w1.heap.size, 1, none⟩ = some (.int .i64 c.kind) := cell_of_row _ _ 1 _ _ _ hq; have q2 : w2.cell? ⟨w1.heap.size, 2, none⟩ = some (.int .i64 c.mode) := cell_of_row _ _ 2 _ _ _ hq; have q3 : w2.cell? ⟨w1.heap.size, 3, none⟩ = some (.string c.data) := cell_of_row _ _ 3 _ _ _ hq; have HHq := hide hq; have HHz := hide (keepC_below hb2 _ _ _ _ (unhide HHz)); have HR2 := hide ((unhide HR1).below hb2); clear hq)
      | (go_at_call 56; refine (unhide HWr w2 (unhide HR2)).mono ?_; rintro ev w3 ⟨rfl, hb3⟩)
      | (go_at_call 88; refine (cutPre_any s T w3).mono ?_; rintro ev w4 ⟨b, rfl, HB, hw⟩; obtain rfl := hw.symm))
    have hB3 : Below w.heap.size w w3 := hB2.trans (hb3.mono hB2.size)
    have hq := keepC_below hb3 _ _ _ _ (unhide HHq)
    have hz := keepC_below hb3 _ _ _ _ (unhide HHz)
    have q3 : w3.cell? ⟨w1.heap.size, 3, none⟩ = some (.string c.data) := cell_of_row _ _ 3 _ _ _ hq
    have HHq := hide hq
    have HHz := hide hz
    have HF : Hid (∃ ok, ok = Lib.hasPrefix s.data.toList T.data.toList ∧ NextIs cs s.data.toList c b.data.toList ok) := hide (by
      refine ⟨_, rfl, ?_⟩
      rw [unhide HB, unhide HT, bt_list, bt_list]
      cases hp : Lib.hasPrefix s.data.toList (entryL c) with
      | true => exact next_yes (unhide HMy) hp
      | false => exact next_part (unhide HC) hp _ _)
    obtain ⟨ok, hok, hN⟩ := unhide HF
    have HNx := hide hN
    rw [← hok]
    clear HF hok hN q0 q1 q2 hq hz hb3 hB2
    go_upto_region 6 with (go_at_call 70; refine (clone_any c.data w3 (by have := unhide HDs; omega)).mono ?_; rintro ev w5 ⟨rfl, hb5⟩; have hq := keepC_below hb5 _ _ _ _ (unhide HHq); have hz := keepC_below hb5 _ _ _ _ (unhide HHz); have q0 : w5.cell? ⟨w1.heap.size, 0, none⟩ = some (.string c.path) := cell_of_row _ _ 0 _ _ _ hq; have q1 : w5.cell? ⟨w1.heap.size, 1, none⟩ = some (.int .i64 c.kind) := cell_of_row _ _ 1 _ _ _ hq; have q2 : w5.cell? ⟨w1.heap.size, 2, none⟩ = some (.int .i64 c.mode) := cell_of_row _ _ 2 _ _ _ hq; have q3 : w5.cell? ⟨w1.heap.size, 3, none⟩ = some (.string c.data) := cell_of_row _ _ 3 _ _ _ hq; have f3 := frz hq 3; have z0 : w5.cell? ⟨w.heap.size, 0, none⟩ = some (.string ⟨#[]⟩) := cell_of_row _ _ 0 _ _ _ hz; have z1 : w5.cell? ⟨w.heap.size, 1, none⟩ = some (.int .i64 0) := cell_of_row _ _ 1 _ _ _ hz; have z2 : w5.cell? ⟨w.heap.size, 2, none⟩ = some (.int .i64 0) := cell_of_row _ _ 2 _ _ _ hz; have z3 : w5.cell? ⟨w.heap.size, 3, none⟩ = some (.string ⟨#[]⟩) := cell_of_row _ _ 3 _ _ _ hz; have y0 := frz hz 0; have y1 := frz hz 1; have y2 := frz hz 2; have y3 := frz hz 3; have hB5 := hB3.trans (hb5.mono hB3.size); have hne : w1.heap.size ≠ w.heap.size := (by omega); have hne2 : w.heap.size ≠ w1.heap.size := (by omega); clear hq hz)
    go_wp2_with fail
    exact bodyPost_ret (v := .tuple #[.agg #[.string c.path, .int .i64 c.kind, .int .i64 c.mode, .string c.data], .string b, .bool ok]) (by simp [results, Tryz.results59, go_sem, z0, z1, z2, z3]) rfl ⟨_, rfl, hide ⟨c, b, ok, rfl, unhide HNx⟩, below_z4 (below_q hB5 hlt0)⟩
end Go.Proofs.YtjofjcjojgpaeaaGreatDoor

namespace Go.Proofs.YtjofjcjojgpaeaaGreatDoor
open Go.RowKit

/-- Changes that may be. -/
def Chain (cs : List Ent) : Prop := ∀ i, i < cs.length → okCh cs i = true
def flatE (cs : List Ent) : List UInt8 := (cs.map entryL).flatten
theorem chain_bad {cs : List Ent} : Chain cs ↔ FirstBadC cs (-1) := by
  constructor
  · exact fun h => .inl ⟨rfl, h⟩
  · rintro (⟨_, h⟩ | ⟨i, h, _⟩)
    · exact h
    · omega
theorem chain_nil : Chain [] := fun i hi => by simp at hi
theorem chain_at {cs : List Ent} (h : Chain cs) {i : Nat} {c : Ent} (hc : cs[i]? = some c) : mayF (cs.take i) c = true := by
  rw [mayF_ok hc]; exact h i (List.getElem?_eq_some_iff.1 hc).1
theorem chain_snoc {cs : List Ent} {c : Ent} (h : Chain cs) (hc : mayF cs c = true) : Chain (cs ++ [c]) := by
  intro i hi
  rw [List.length_append, List.length_singleton] at hi
  by_cases hl : i < cs.length
  · have e : (cs ++ [c])[i]? = some cs[i] := by rw [List.getElem?_append_left hl, List.getElem?_eq_getElem hl]
    rw [← mayF_ok e, List.take_append_of_le_length (by omega), mayF_ok (List.getElem?_eq_getElem hl)]
    exact h i hl
  · have hi' : i = cs.length := by omega
    subst hi'
    have e : (cs ++ [c])[cs.length]? = some c := by simp
    rw [← mayF_ok e, List.take_left]; exact hc
theorem chain_ch {cs : List Ent} (h : Chain cs) {c : Ent} (hc : c ∈ cs) : chOk c = true := by
  obtain ⟨i, hi, rfl⟩ := List.getElem_of_mem hc
  exact (okCh_parts (List.getElem?_eq_getElem hi) (h i hi)).1
theorem chain_len {cs : List Ent} (h : Chain cs) : cs.length ≤ 80 := allCh_lt h
theorem chain_small {cs : List Ent} (h : Chain cs) : Small cs := fun e he => by
  obtain ⟨m, hm⟩ := (pkg_of (chain_ch h he)).pkc
  exact ⟨hm.path, hm.data⟩
theorem flatE_snoc' (cs : List Ent) (c : Ent) : flatE (cs ++ [c]) = flatE cs ++ entryL c := by simp [flatE]
theorem flatE_cons (cs : List Ent) (c : Ent) : flatE (c :: cs) = entryL c ++ flatE cs := by simp [flatE]
theorem flatE_app (cs ds : List Ent) : flatE (cs ++ ds) = flatE cs ++ flatE ds := by simp [flatE]
theorem read_self {c : Ent} (h : chOk c = true) (r : List UInt8) : ReadIs (entryL c ++ r) c := by
  obtain ⟨s, hs⟩ : ∃ s, s = entryL c ++ r := ⟨_, rfl⟩
  have hb := chg_back h r
  have hf := ent_fld (pkg_of h) r
  rw [← hs] at hb hf ⊢
  have hm := (chOk_kind h).2.1
  have hmode : NumIs (upN (fldL (s.take 512) 100 8)) c.mode := by
    rw [fld_take (by omega), hf.mode, upN_dig]
    intro _ _
    rw [digN_val]; omega
  by_cases hk : c.kind = 2
  · have h1 : ChgIs (s.take 512) ⟨c.path, c.kind, c.mode, bt (linkL c)⟩ := ⟨by rw [chg_take, hb, bt_of], by rw [chg_take, hb], by rw [chg_take, hb], hmode⟩
    have hv : NumIs (upN (fldL (s.take 512) 124 12)) ((dataL c).length : Nat) := by
      rw [fld_take (by omega), hf.size, upN_dig]
      intro _ _
      rw [digN_val]
    have hd : c.data = bt ((s.drop 512).take (dataL c).length) := by
      have := hf.data
      unfold fldL at this
      rw [this]
      rw [dataL, if_pos hk, bt_of]
    exact read_file (c := ⟨c.path, c.kind, c.mode, bt (linkL c)⟩) h1 hk hv hd
  · have h1 : ChgIs (s.take 512) c := ⟨by rw [chg_take, hb, bt_of], by rw [chg_take, hb], by rw [chg_take, hb, ← data_of h hk, bt_of], hmode⟩
    exact read_chg h1 hk
theorem entry_inj {c d : Ent} {r t : List UInt8} (hc : chOk c = true) (hd : chOk d = true) (h : entryL c ++ r = entryL d ++ t) : c = d ∧ r = t := by
  have e := (read_self hc r).back d t hd h
  subst e
  exact ⟨rfl, List.append_cancel_left h⟩
theorem entry_zeros {c : Ent} (hc : chOk c = true) (r : List UInt8) (n : Nat) : entryL c ++ r ≠ List.replicate n 0 := fun e => by
  have hk := (ent_fld (pkg_of hc) r).kind
  rw [e] at hk
  have hm : flagL c ∈ fldL (List.replicate n 0) 156 1 := by rw [hk]; simp
  have := (List.mem_replicate.1 (List.mem_of_mem_drop (List.mem_of_mem_take hm))).2
  exact flag_no0 c this
theorem parse_det (cs : List Ent) : ∀ (ds : List Ent) (r t : List UInt8), (∀ c ∈ cs, chOk c = true) → (∀ c ∈ ds, chOk c = true) → flatE cs ++ r = flatE ds ++ t → (∃ u, ds = cs ++ u) ∨ ∃ u, cs = ds ++ u := by
  induction cs with
  | nil => exact fun ds _ _ _ _ _ => .inl ⟨ds, rfl⟩
  | cons c cs ih =>
    intro ds r t hc hd h
    cases ds with
    | nil => exact .inr ⟨c :: cs, rfl⟩
    | cons d ds =>
      rw [flatE_cons, flatE_cons, List.append_assoc, List.append_assoc] at h
      obtain ⟨e, h2⟩ := entry_inj (hc c (by simp)) (hd d (by simp)) h
      subst e
      rcases ih ds r t (fun x hx => hc x (List.mem_cons_of_mem _ hx)) (fun x hx => hd x (List.mem_cons_of_mem _ hx)) h2 with ⟨u, e⟩ | ⟨u, e⟩
      · exact .inl ⟨u, by rw [e]; rfl⟩
      · exact .inr ⟨u, by rw [e]; rfl⟩
def endL : List UInt8 := List.replicate 1024 0
/-- Behind these changes nothing comes. -/
def Ends (cs : List Ent) (r : List UInt8) : Prop := r = endL ∨ ∀ c, mayF cs c = true → ¬ entryL c <+: r
theorem ends_long {cs : List Ent} {u : List Ent} {r t : List UInt8} (hr : Ends cs r) (hd : Chain (cs ++ u)) (h : flatE cs ++ r = flatE (cs ++ u) ++ t) : u = [] ∧ r = t := by
  rw [flatE_app, List.append_assoc] at h
  have h2 := List.append_cancel_left h
  cases u with
  | nil => exact ⟨rfl, by simpa [flatE] using h2⟩
  | cons c u =>
    rw [flatE_cons, List.append_assoc] at h2
    have hm : mayF cs c = true := by
      have := chain_at hd (i := cs.length) (c := c) (by simp)
      rwa [List.take_left] at this
    rcases hr with rfl | hr
    · exact absurd h2.symm (entry_zeros (mayF_ch hm) _ _)
    · exact absurd ⟨_, h2.symm⟩ (hr c hm)
theorem parse_one {cs ds : List Ent} {r t : List UInt8} (hc : Chain cs) (hd : Chain ds) (hr : Ends cs r) (ht : Ends ds t) (h : flatE cs ++ r = flatE ds ++ t) : cs = ds ∧ r = t := by
  rcases parse_det cs ds r t (fun c => chain_ch hc) (fun c => chain_ch hd) h with ⟨u, rfl⟩ | ⟨u, rfl⟩
  · obtain ⟨rfl, e⟩ := ends_long hr hd h
    exact ⟨by simp, e⟩
  · obtain ⟨rfl, e⟩ := ends_long ht hc h.symm
    exact ⟨by simp, e.symm⟩
/-- An archive of changes. -/
def UnpOk (s : List UInt8) (cs : List Ent) : Prop := Chain cs ∧ s = flatE cs ++ endL
/-- No archive: the place at which neither an entry nor the end stands. -/
def UnpBad (s : List UInt8) (i : Nat) : Prop := ∃ cs r, Chain cs ∧ s = flatE cs ++ r ∧ i = (flatE cs).length ∧ r ≠ endL ∧ ∀ c, mayF cs c = true → ¬ entryL c <+: r
theorem unp_ok {s : List UInt8} {cs ds : List Ent} (h : UnpOk s cs) (h2 : UnpOk s ds) : cs = ds :=
  (parse_one h.1 h2.1 (.inl rfl) (.inl rfl) (h.2.symm.trans h2.2)).1
theorem unp_no {s : List UInt8} {cs : List Ent} {i : Nat} (h : UnpOk s cs) (h2 : UnpBad s i) : False := by
  obtain ⟨ds, r, hd, e, _, hn, hb⟩ := h2
  exact hn (parse_one h.1 hd (.inl rfl) (.inr hb) (h.2.symm.trans e)).2.symm
theorem unp_bad {s : List UInt8} {i j : Nat} (h : UnpBad s i) (h2 : UnpBad s j) : i = j := by
  obtain ⟨cs, r, hc, e, hi, _, hb⟩ := h
  obtain ⟨ds, t, hd, e2, hj, _, hb2⟩ := h2
  rw [hi, hj, (parse_one hc hd (.inr hb) (.inr hb2) (e.symm.trans e2)).1]
end Go.Proofs.YtjofjcjojgpaeaaGreatDoor
