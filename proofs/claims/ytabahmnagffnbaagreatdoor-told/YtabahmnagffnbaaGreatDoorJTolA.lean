import Derived.Test.YtabahmnagffnbaaGreatDoorJLwA
import Derived.Test.YtabahmnagffnbaaGreatDoorJOrdB
import Derived.Test.YtabahmnagffnbaaGreatDoorJTreeP
namespace Go.Proofs.YtabahmnagffnbaaGreatDoor
open Go.RowKit

theorem pick_any (c n : Int) (w : World) (h0 : 0 < n) (h1 : n ≤ 1000) :
    Calls Tryz.prog 13 #[.int .i64 c, .int .i64 n] w fun ev w' => ∃ k : Int, ev = .returned (.int .i64 k) ∧ 0 ≤ k ∧ k < n ∧ w' = w := by
  have hn : ¬ n = 0 := by omega
  have hn2 : (n == 0) = false := by simp [hn]
  have ha : -n < c.tmod n := by
    have := Int.lt_tmod_of_pos c h0
    omega
  have hb : c.tmod n < n := Int.tmod_lt_of_pos c h0
  by_cases hneg : c.tmod n < 0
  · go_enter Tryz.func13, Tryz.ntmps13
    go_wp2
    go_ret
    exact ⟨_, rfl, by omega, by omega, rfl⟩
  · go_enter Tryz.func13, Tryz.ntmps13
    go_wp2
    go_ret
    exact ⟨_, rfl, by omega, by omega, rfl⟩
/-- One of n by any number. -/
def pickN (c n : Int) : Int := if c.tmod n < 0 then c.tmod n + n else c.tmod n
theorem kpick_any (c n : Int) (w : World) (h0 : 0 < n) (h1 : n ≤ 1000) :
    Calls Tryz.prog 5 #[.int .i64 c, .int .i64 n] w fun ev w' => ∃ k : Nat, ev = .returned (.int .i64 (k : Int)) ∧ (k : Int) < n ∧ w' = w := by
  have hP := pick_any c n w h0 h1
  go_enter Tryz.func5, Tryz.ntmps5
  go_wp2_with (go_at_call 13; refine hP.mono ?_; rintro ev w' ⟨k, rfl, k0, k1, hw⟩; obtain rfl := hw.symm; obtain ⟨j, rfl⟩ : ∃ j : Nat, k = (j : Int) := ⟨k.toNat, by omega⟩)
  go_ret
  exact ⟨j, rfl, k1, rfl⟩
theorem decimal_any : ∀ (n : Nat), n ≤ 1073741824 → ∀ w : World, Calls Tryz.prog 6 #[.int .i64 (n : Int)] w fun ev w' => ∃ s : ByteArray, ev = .returned (.string s) ∧ Hid (s.data.toList = decL n) ∧ s.size ≤ n + 1 ∧ w' = w := by
  intro n
  induction n using Nat.strongRecOn with
  | ind n ih =>
    intro hn w
    obtain ⟨r, er⟩ : ∃ r, r = n % 10 := ⟨_, rfl⟩
    have r8 : r < 10 := by omega
    have f1 : (n : Int) % 10 = (r : Int) := by omega
    have f2 : (n : Int).tmod 10 = (r : Int) := by rw [Int.tmod_eq_emod_of_nonneg (by omega)]; exact f1
    have r0 : (0 : Int) ≤ (r : Int) := by omega
    have r1 : (r : Int) + 1 ≤ 10 := by omega
    have HD := hide (dig10 r r8)
    by_cases hs : n < 10
    · have HE : Hid (decL n = [UInt8.ofNat (48 + r)]) := hide (by rw [decL, if_pos hs, er, Nat.mod_eq_of_lt hs])
      have hs2 : (n : Int) < 10 := by omega
      clear er ih
      go_enter Tryz.func6, Tryz.ntmps6
      go_wp2
      go_ret
      exact ⟨_, rfl, hide (by rw [unhide HD, unhide HE]), by rw [Lib.size_eq, unhide HD]; simp, rfl⟩
    · obtain ⟨q, eq⟩ : ∃ q, q = n / 10 := ⟨_, rfl⟩
      have HE : Hid (decL n = decL q ++ [UInt8.ofNat (48 + r)]) := hide (by rw [decL, if_neg hs, er, eq])
      have hq := ih q (by omega) (by omega)
      have g1 : (n : Int) / 10 = (q : Int) := by omega
      have g2 : (n : Int).tdiv 10 = (q : Int) := by rw [Int.tdiv_eq_ediv_of_nonneg (by omega)]; exact g1
      have hs2 : ¬ (n : Int) < 10 := by omega
      have hqn : q + 1 ≤ n := by omega
      have hz : ((⟨#[48, 49, 50, 51, 52, 53, 54, 55, 56, 57]⟩ : ByteArray).extract r (r + 1)).size = 1 := by rw [Lib.size_eq, unhide HD]; rfl
      clear er eq ih
      go_enter Tryz.func6, Tryz.ntmps6
      go_wp2_with (go_at_call 6; refine (hq _).mono ?_; rintro ev w' ⟨s, rfl, HS, hsz, hw⟩; obtain rfl := hw.symm)
      go_ret
      exact ⟨_, rfl, hide (by rw [data_append, unhide HS, unhide HD, unhide HE]), by rw [Lib.size_eq, data_append, List.length_append, ← Lib.size_eq, unhide HD]; simp; omega, rfl⟩

theorem octal_any : ∀ (n : Nat), n ≤ 1073741824 → ∀ w : World, Calls Tryz.prog 9 #[.int .i64 (n : Int)] w fun ev w' => ∃ s : ByteArray, ev = .returned (.string s) ∧ Hid (s.data.toList = octL n) ∧ s.size ≤ n + 1 ∧ w' = w := by
  intro n
  induction n using Nat.strongRecOn with
  | ind n ih =>
    intro hn w
    obtain ⟨r, er⟩ : ∃ r, r = n % 8 := ⟨_, rfl⟩
    have r8 : r < 8 := by omega
    have f1 : (n : Int) % 8 = (r : Int) := by omega
    have f2 : (n : Int).tmod 8 = (r : Int) := by rw [Int.tmod_eq_emod_of_nonneg (by omega)]; exact f1
    have r0 : (0 : Int) ≤ (r : Int) := by omega
    have r1 : (r : Int) + 1 ≤ 8 := by omega
    have HD := hide (dig8 r r8)
    by_cases hs : n < 8
    · have HE : Hid (octL n = [UInt8.ofNat (48 + r)]) := hide (by rw [octL, if_pos hs, er, Nat.mod_eq_of_lt hs])
      have hs2 : (n : Int) < 8 := by omega
      clear er ih
      go_enter Tryz.func9, Tryz.ntmps9
      go_wp2
      go_ret
      exact ⟨_, rfl, hide (by rw [unhide HD, unhide HE]), by rw [Lib.size_eq, unhide HD]; simp, rfl⟩
    · obtain ⟨q, eq⟩ : ∃ q, q = n / 8 := ⟨_, rfl⟩
      have HE : Hid (octL n = octL q ++ [UInt8.ofNat (48 + r)]) := hide (by rw [octL, if_neg hs, er, eq])
      have hq := ih q (by omega) (by omega)
      have g1 : (n : Int) / 8 = (q : Int) := by omega
      have g2 : (n : Int).tdiv 8 = (q : Int) := by rw [Int.tdiv_eq_ediv_of_nonneg (by omega)]; exact g1
      have hs2 : ¬ (n : Int) < 8 := by omega
      have hqn : q + 1 ≤ n := by omega
      have hz : ((⟨#[48, 49, 50, 51, 52, 53, 54, 55]⟩ : ByteArray).extract r (r + 1)).size = 1 := by rw [Lib.size_eq, unhide HD]; rfl
      clear er eq ih
      go_enter Tryz.func9, Tryz.ntmps9
      go_wp2_with (go_at_call 9; refine (hq _).mono ?_; rintro ev w' ⟨s, rfl, HS, hsz, hw⟩; obtain rfl := hw.symm)
      go_ret
      exact ⟨_, rfl, hide (by rw [data_append, unhide HS, unhide HD, unhide HE]), by rw [Lib.size_eq, data_append, List.length_append, ← Lib.size_eq, unhide HD]; simp; omega, rfl⟩
end Go.Proofs.YtabahmnagffnbaaGreatDoor

namespace Go.Proofs.YtabahmnagffnbaaGreatDoor
open Go.RowKit

/-- A store that a call made behind B. -/
def TSt (w : World) (B lb n z : Nat) : Prop := ∃ sb mb v L A, XSt w lb sb mb v L 16777216 A ∧ (∀ k, OwnS sb mb v k ∨ k = lb → B ≤ k) ∧ Good L n ∧ szL L ≤ z ∧ A.length ≤ n ∧ B ≤ w.heap.size
theorem TSt.below {w w' : World} {B lb n z : Nat} (h : TSt w B lb n z) (hb : Below w.heap.size w w') : TSt w' B lb n z := by
  obtain ⟨sb, mb, v, L, A, hX, ho, hg, hz, hA, hB⟩ := h
  exact ⟨sb, mb, v, L, A, hX.below hb, ho, hg, hz, hA, Nat.le_trans hB hb.size⟩
theorem szL_keep {L : List Blb} (hL : Rise L) (s d : ByteArray) : szL (keepR L s d) ≤ szL L + d.size := by
  rw [keepR_eq hL, szL_put (rise_del hL _)]
  have h1 := szL_del_le (delB L (asideR s).data.toList) (Blb.nm ⟨s, d⟩)
  have h2 := szL_del_le L (asideR s).data.toList
  show _ + d.size ≤ _
  omega
theorem own_next {w w' : World} {B lb sb mb : Nat} {v v' : Value} (ho : ∀ k, OwnS sb mb v k ∨ k = lb → B ≤ k) (hB : B ≤ w.heap.size) (hG : Goes w sb mb v w' v') : (∀ k, OwnS sb mb v' k ∨ k = lb → B ≤ k) ∧ Below B w w' := by
  refine ⟨?_, ⟨hG.turn.os, hG.turn.tape, hG.turn.output, hG.turn.size, fun k hk => hG.turn.block k (by omega) (fun hs => by have := ho k (.inl hs); omega)⟩⟩
  rintro k ((e | e | e) | e)
  · exact ho k (.inl (.inl e))
  · exact ho k (.inl (.inr (.inl e)))
  · rcases hG.own k e with e | e
    · exact ho k (.inl (.inr (.inr e)))
    · omega
  · exact ho k (.inr e)
/-- 'Put' where there is room. -/
theorem tput (B lb n z : Nat) (d : ByteArray) (w : World) (h : TSt w B lb n z) (hV : Vars w) (hB : 2 ≤ B) (hn : n ≤ 1000) (hz : z + d.size ≤ 16777216) (hd : d.size ≤ 1048576) :
    Calls Tryz.prog 8 #[.pointer (some ⟨lb, 0, none⟩), .string d] w fun ev w' => ev = .returned (.tuple #[.string (dig d), .int .i64 0]) ∧ TSt w' B lb (n + 4) (z + d.size) ∧ Below B w w' := by
  obtain ⟨sb, mb, v, L, A, hX, ho, hg, hsz, hA, hBw⟩ := h
  have hgl := hg.len
  have hgs := hg.sz
  refine (lput_act lb sb mb v L 16777216 A d w hX (by omega) (by omega) (by omega) (fun b hb => by have := hg.data b hb; omega) (by omega) hV (fun k hk => Nat.le_trans hB (ho k (.inl hk)))).mono ?_
  rintro ev w' ⟨x, r, L', A', HP, rfl, v', hX', hG⟩
  obtain ⟨ho', hb'⟩ := own_next ho hBw hG
  have hBw' : B ≤ w'.heap.size := Nat.le_trans hBw hG.turn.size
  cases unhide HP using PutAns.el with
  | there h => exact ⟨rfl, ⟨sb, mb, v', L, A, hX', ho', hg.mono (by omega), by omega, by omega, hBw'⟩, hb'⟩
  | full h hq =>
    exfalso
    have := szL_del_le L (blobN (dig d)).data.toList
    omega
  | kept h hq =>
    refine ⟨rfl, ⟨sb, mb, v', _, _, hX', ho', (hg.kept (by omega) hq (by omega)).mono (by omega), ?_, ?_, hBw'⟩, hb'⟩
    · have := szL_keep hg.rise (blobN (dig d)) d
      omega
    · rw [List.length_append]
      show A.length + 4 ≤ _
      omega
/-- The list of acts is forgotten. -/
theorem XSt.forget {w : World} {lb sb mb : Nat} {v : Value} {L : List Blb} {q : Int} {A : List Ac} (h : XSt w lb sb mb v L q A) {w1 : World} (hb : Below (w.setCell ⟨sb, 2, none⟩ (.slice none 0 0)).heap.size (w.setCell ⟨sb, 2, none⟩ (.slice none 0 0)) w1) :
    XSt w1 lb sb mb (.slice none 0 0) L q [] ∧ Goes w sb mb v w1 (.slice none 0 0) := by
  have hoth : ∀ k, k < w.heap.size → k ≠ sb → w1.heap[k]? = w.heap[k]? := fun k hk hne => (hb.block k (by simpa using hk)).trans (Below.heap_setCell _ _ _ _ hne)
  have hG : Goes w sb mb v w1 (.slice none 0 0) := by
    refine ⟨⟨hb.os, hb.tape, hb.output, by simpa using hb.size, fun k hk hs => hoth k hk (fun e => hs (.inl e))⟩, fun k e => by cases e⟩
  have hsl := h.st.lt sb (.inl rfl)
  have hml := h.st.lt mb (.inr (.inl rfl))
  refine ⟨⟨(hoth lb (Array.getElem?_eq_some_iff.1 h.face).1 (fun e => h.apart (.inl e))).trans h.face, ⟨?_, ?_, World.ownsRow_nil _ _ _ _⟩⟩, hG⟩
  · exact (hb.block sb (by simpa using hsl)).trans (heap_setCell_same _ _ 2 _ _ _ h.st.cells)
  · obtain ⟨es, clock, hm, r⟩ := h.st.map
    exact ⟨es, clock, (hoth mb hml h.st.sb_mb.symm).trans hm, r⟩
theorem keep_nil (s d : ByteArray) : keepR [] s d = [⟨s, d⟩] := by
  rw [keepR_eq (show Rise [] from List.Pairwise.nil)]
  simp [putB, delB]
theorem get_one (d : ByteArray) : getV [⟨blobN (dig d), d⟩] (dig d) = (d, true) := by
  rw [getV, show getB [⟨blobN (dig d), d⟩] (blobN (dig d)).data.toList = some ⟨blobN (dig d), d⟩ from by simp [getB, Blb.nm]]
  simp [dig]
abbrev firstT : ByteArray := ⟨#[102, 105, 114, 115, 116]⟩
set_option maxRecDepth 100000 in
theorem begun_any (w : World) (hV : Vars w) : Calls Tryz.prog 4 #[.slice none 0 0] w fun ev w' => ∃ lb, ev = .returned (.pointer (some ⟨lb, 0, none⟩)) ∧ TSt w' w.heap.size lb 8 8 ∧ Below w.heap.size w w' := by
  have hN := pnew_act none 0 0 [] 16777216 w (fun k b hk => by simp at hk) (hide rfl) (by omega) (fun b hb => by simp at hb) hV
  have HV := hide hV
  have h2 : 2 ≤ w.heap.size := World.block_lt_of_cell? _ _ (hV.ks 0 (by decide))
  clear hV
  go_enter Tryz.func4, Tryz.ntmps4
  go_upto_region 2 with (go_at_call 10; refine hN.mono ?_; clear hN; rintro ev w1 ⟨v, e, k, rfl, hX, hb1⟩)
  rcases hX with ⟨i, hF, _⟩ | ⟨_, hq, _⟩ | ⟨_, _, rfl, rfl, lb, sb, mb, va, rfl, hown, hx⟩
  · exfalso
    rcases hF with ⟨h, _⟩ | ⟨j, _, hj, _⟩
    · omega
    · simp at hj
  · exfalso; omega
  · have hx0 : XSt w1 lb sb mb va [] 16777216 [] := hx
    have HX := hide hx0
    have HO := hide hown
    have HV1 := hide ((unhide HV).below hb1)
    have hP := lput_act lb sb mb va [] 16777216 [] firstT w1 hx0 (by simp) (by simp) (by decide) (fun b hb => by simp at hb) (by simp [szL]) (unhide HV1) (fun k hk => Nat.le_trans h2 (hown k (.inl hk)))
    clear hx hx0 hown
    go_upto_region 5 with (go_at_call 8; refine hP.mono ?_; clear hP; rintro ev w2 ⟨x, r, L', A', HP, rfl, HPX⟩)
    cases unhide HP using PutAns.el with
    | there h => exact absurd h (by simp [getV, getB])
    | full h hq => exact absurd hq (by simp [szL, delB]; decide)
    | kept h hq =>
      obtain ⟨v', hX2, hG2⟩ := HPX
      rw [keep_nil, List.nil_append] at hX2
      obtain ⟨ho2, hb2⟩ := own_next (unhide HO) (Nat.le_trans (Nat.le_refl _) hb1.size) hG2
      have HV2 := hide ((unhide HV1).turn hG2.turn (fun k hk => Nat.le_trans h2 (unhide HO k (.inl hk))))
      have hGet := pget_act lb sb mb v' _ 16777216 _ (dig firstT) w2 hX2 (by rw [dig_size]; decide) (fun b hb => by simp at hb; subst hb; decide) (unhide HV2)
      rw [get_one] at hGet
      have HX2 := hide hX2
      have HO2 := hide ho2
      clear hX2 ho2 hG2 HP hq h
      go_upto_region 8 with (go_at_call 11; refine hGet.mono ?_; clear hGet; rintro ev w3 ⟨rfl, hb3⟩)
      have hX3 := (unhide HX2).below hb3
      have hAc := lacts_any lb sb mb v' _ 16777216 _ w3 hX3 (by simp [keepB]) (by
        have := (goodA_keep (d := firstT) (by decide)).2
        intro a ha
        have := this a ha
        omega)
      have HX3 := hide hX3
      clear hX3 HX2
      go_wp2_with (go_at_call 12; refine hAc.mono ?_; clear hAc; rintro ev w4 ⟨rfl, hb4⟩)
      go_ret
      obtain ⟨hX4, hG4⟩ := (unhide HX3).forget hb4
      have hw3 : w.heap.size ≤ w3.heap.size := Nat.le_trans hb1.size (Nat.le_trans hb2.size hb3.size)
      obtain ⟨ho4, hb4'⟩ := own_next (unhide HO2) hw3 hG4
      refine ⟨lb, rfl, ⟨sb, mb, _, _, _, hX4, ho4, ?_, ?_, by simp, Nat.le_trans hw3 hG4.turn.size⟩, ?_⟩
      · rw [← keep_nil]
        exact ((⟨List.Pairwise.nil, fun b hb => by simp at hb, fun b hb => by simp at hb, by simp [szL], by simp⟩ : Good [] 0).kept (d := firstT) (q := 16777216) (by decide) (by simp [szL, delB]; decide) (by omega)).mono (by omega)
      · simp [szL]; decide
      · exact hb1.trans (hb2.trans ((hb3.mono (Nat.le_trans hb1.size hb2.size)).trans hb4'))
end Go.Proofs.YtabahmnagffnbaaGreatDoor

namespace Go.Proofs.YtabahmnagffnbaaGreatDoor
open Go.RowKit

/-- A directory, a file and a link in it. -/
def tolE (d m : Int) (data tx : ByteArray) : List Ent := [⟨⟨#[100]⟩, 1, d, ⟨#[]⟩⟩, ⟨⟨#[100, 47, 102]⟩, 2, m, data⟩, ⟨⟨#[100, 47, 108]⟩, 3, 0, tx⟩]
theorem dir_d : dirOf [100] = [] ∧ nameOf [100] = [100] := dir_no (by decide)
theorem dir_f : dirOf [100, 47, 102] = [100] ∧ nameOf [100, 47, 102] = [102] := dir_at (a := [100]) (b := [102]) (by decide)
theorem dir_l : dirOf [100, 47, 108] = [100] ∧ nameOf [100, 47, 108] = [108] := dir_at (a := [100]) (b := [108]) (by decide)
theorem tol_ok {d m : Int} {data tx : ByteArray} (hd : modeOk d = true) (hm : modeOk m = true) (hs : data.size ≤ 4096) (ht : tgt tx.data.toList = true) : FirstBad (tolE d m data tx) (-1) := by
  refine .inl ⟨rfl, fun i hi => ?_⟩
  have p0 : isP [100] = true := by decide
  have p1 : isP [100, 47, 102] = true := by decide
  have p2 : isP [100, 47, 108] = true := by decide
  have l1 : ltL (prt [100]) (prt [100, 47, 102]) = true := by decide
  have l2 : ltL (prt [100, 47, 102]) (prt [100, 47, 108]) = true := by decide
  match i, hi with
  | 0, _ => simp [okAt, tolE, entOk, p0, goodE, hd, dir_d.1, kindP]
  | 1, _ => simp [okAt, tolE, entOk, p1, goodE, hm, hs, l1, dir_f.1, kindP]
  | 2, _ => simp [okAt, tolE, entOk, p2, goodE, ht, l2, dir_l.1, kindP]
  | n + 3, h => exact absurd h (by simp [tolE])
theorem oct_root : octL 493 = [55, 53, 53] := by
  rw [octL, if_neg (by decide), octL, if_neg (by decide), octL, if_pos (by decide)]
  rfl
/-- What that tree's sum is. -/
theorem tol_sum (d m : Int) (data tx : ByteArray) : sumF (tolE d m data tx) 4 rootE
    = sha ([100, 105, 114, 32, 55, 53, 53, 10, 100, 32] ++ sha ([100, 105, 114, 32] ++ octL d.toNat ++ [10, 102, 32] ++ sha ([102, 105, 108, 101, 32] ++ octL m.toNat ++ [32] ++ decL data.size ++ [10] ++ data.data.toList) ++ [10, 108, 32] ++ sha ([108, 105, 110, 107, 32] ++ tx.data.toList) ++ [10]) ++ [10]) := by
  have k0 : kidsE (tolE d m data tx) [] = [⟨⟨#[100]⟩, 1, d, ⟨#[]⟩⟩] := by simp [kidsE, tolE, dir_d.1, dir_f.1, dir_l.1]
  have k1 : kidsE (tolE d m data tx) [100] = [⟨⟨#[100, 47, 102]⟩, 2, m, data⟩, ⟨⟨#[100, 47, 108]⟩, 3, 0, tx⟩] := by simp [kidsE, tolE, dir_d.1, dir_f.1, dir_l.1]
  rw [sumF, show rootE.path.data.toList = [] from rfl, k0]
  simp only [rootE, List.map_cons, List.map_nil, List.flatten_cons, List.flatten_nil, List.append_nil, kidT, sumF, k1, dir_d.2, dir_f.2, dir_l.2]
  simp [fileT, linkT, dirT, oct_root]
theorem tgC_digit (r : Nat) (hr : r < 10) : tgC (UInt8.ofNat (48 + r)) = true := by
  have : ∀ r : Fin 10, tgC (UInt8.ofNat (48 + r.val)) = true := by decide
  exact this ⟨r, hr⟩
/-- What the link names. -/
theorem dec_tgt (t : Nat) (h : t < 1000) : tgt (116 :: decL t) = true := by
  have e1 : ∀ n, n < 10 → decL n = [UInt8.ofNat (48 + n)] := fun n h => by rw [decL, if_pos h]
  have e2 : ∀ n, ¬ n < 10 → decL n = decL (n / 10) ++ [UInt8.ofNat (48 + n % 10)] := fun n h => by rw [decL, if_neg h]
  have c0 : tgC 116 = true := by decide
  have d0 := tgC_digit (t % 10) (Nat.mod_lt _ (by decide))
  have d1 := tgC_digit (t / 10 % 10) (Nat.mod_lt _ (by decide))
  have d2 : t / 10 / 10 < 10 → tgC (UInt8.ofNat (48 + t / 10 / 10)) = true := fun h => tgC_digit _ h
  have d3 : t < 10 → tgC (UInt8.ofNat (48 + t)) = true := fun h => tgC_digit _ h
  have d4 : t / 10 < 10 → tgC (UInt8.ofNat (48 + t / 10)) = true := fun h => tgC_digit _ h
  by_cases h1 : t < 10
  · rw [e1 t h1]
    have := d3 h1
    generalize UInt8.ofNat (48 + t) = x at this
    simp [tgt, c0, this]
  · by_cases h2 : t / 10 < 10
    · rw [e2 t h1, e1 _ h2]
      have := d4 h2
      generalize UInt8.ofNat (48 + t / 10) = x at this
      generalize UInt8.ofNat (48 + t % 10) = y at d0
      simp [tgt, c0, this, d0]
    · rw [e2 t h1, e2 _ h2, e1 (t / 10 / 10) (by omega)]
      have := d2 (by omega)
      generalize UInt8.ofNat (48 + t / 10 / 10) = x at this
      generalize UInt8.ofNat (48 + t / 10 % 10) = z at d1
      generalize UInt8.ofNat (48 + t % 10) = y at d0
      simp [tgt, c0, this, d0, d1]
end Go.Proofs.YtabahmnagffnbaaGreatDoor
