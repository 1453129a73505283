import Derived.Test.YtjhkeaijcdpaaaaGreatDoorDcX
import Derived.Test.YtjhkeaijcdpaaaaGreatDoorJDcJ
namespace Go.Proofs.YtjhkeaijcdpaaaaGreatDoor
open Go.RowKit Go.Maps

abbrev wF : List UInt8 := [70, 82, 79, 77, 32]
abbrev wA : List UInt8 := [32, 65, 83, 32]
abbrev wFr : List UInt8 := [32, 45, 45, 102, 114, 111, 109, 61]
def nameAt (ss : List DsM) (k : Int) : List UInt8 := match ss[k.toNat]? with
  | some s => s.name
  | none => []
/-- The document's stages in their one form. -/
def wrdF (m : WdM) : List UInt8 := [32] ++ formD m.xs
def wrdsF (l : List WdM) : List UInt8 := (l.map wrdF).flatten
def opF (ss : List DsM) (p : DpM) : List UInt8 := p.op ++ (if 0 ≤ p.stage then wFr ++ nameAt ss p.stage else [])
def stepF (ss : List DsM) (p : DpM) : List UInt8 := opF ss p ++ wrdsF (p.ms.drop p.d) ++ [10]
def stepsF (ss : List DsM) (l : List DpM) : List UInt8 := (l.map (stepF ss)).flatten
def headF (ss : List DsM) (s : DsM) : List UInt8 := wF ++ titleD ss s.base ++ (if s.name = [] then [] else wA ++ s.name) ++ [10]
def stgF (ss : List DsM) (s : DsM) : List UInt8 := headF ss s ++ stepsF ss s.steps
def stgsF (ss l : List DsM) : List UInt8 := (l.map (stgF ss)).flatten
theorem wrdsF_take {l : List WdM} {k : Nat} {m : WdM} (h : l[k]? = some m) : wrdsF (l.take (k + 1)) = wrdsF (l.take k) ++ wrdF m := by rw [List.take_add_one, h]; simp [wrdsF]
theorem stepsF_take {ss : List DsM} {l : List DpM} {k : Nat} {m : DpM} (h : l[k]? = some m) : stepsF ss (l.take (k + 1)) = stepsF ss (l.take k) ++ stepF ss m := by rw [List.take_add_one, h]; simp [stepsF]
theorem stgsF_take {ss l : List DsM} {k : Nat} {m : DsM} (h : l[k]? = some m) : stgsF ss (l.take (k + 1)) = stgsF ss (l.take k) ++ stgF ss m := by rw [List.take_add_one, h]; simp [stgsF]
theorem flat_le {α : Type} (f : α → List UInt8) (M : Nat) : ∀ l : List α, (∀ x ∈ l, (f x).length ≤ M) → ((l.map f).flatten).length ≤ l.length * M := by
  intro l
  induction l with
  | nil => intro _; simp
  | cons a r ih =>
    intro h
    have h1 := ih (fun x hx => h x (List.mem_cons_of_mem _ hx))
    have h2 := h a (List.mem_cons_self ..)
    simp only [List.map_cons, List.flatten_cons, List.length_append, List.length_cons]
    rw [Nat.add_mul]; omega
/-- What is asked of stages that are told. -/
structure TOk (ss : List DsM) : Prop where
  len : ss.length ≤ 5
  name : ∀ s ∈ ss, s.name.length ≤ 10
  steps : ∀ s ∈ ss, s.steps.length ≤ 24
  base : ∀ s ∈ ss, s.base < ss.length
  op : ∀ s ∈ ss, ∀ p ∈ s.steps, p.op.length ≤ 10 ∧ p.stage < ss.length
theorem name_len {ss : List DsM} (h : TOk ss) (k : Int) : (nameAt ss k).length ≤ 10 := by
  unfold nameAt
  split
  · rename_i s hs; exact h.name s (List.mem_of_getElem? hs)
  · simp
theorem title_len {ss : List DsM} (h : TOk ss) (k : Int) : (titleD ss k).length ≤ 10 := by
  unfold titleD
  split
  · decide
  · split
    · rename_i s hs; exact h.name s (List.mem_of_getElem? hs)
    · simp
theorem formD_len {xs : List Atm} (h : AtOk xs) (hl : xs.length ≤ 1500) : (formD xs).length ≤ 19502 := by
  unfold formD
  split
  · simp
  · have := atsF_len xs h; omega
theorem wrdF_len {m : WdM} (h : AtOk m.xs ∧ m.xs.length ≤ 1500) : (wrdF m).length ≤ 19503 := by
  have := formD_len h.1 h.2
  unfold wrdF; simp; omega
theorem wrdsF_len {l : List WdM} (h : ∀ m ∈ l, AtOk m.xs ∧ m.xs.length ≤ 1500) (hl : l.length ≤ 1500) : (wrdsF l).length ≤ 29254500 := by
  have := flat_le wrdF 19503 l (fun m hm => wrdF_len (h m hm))
  unfold wrdsF; omega
theorem opF_len {ss : List DsM} (h : TOk ss) {p : DpM} (hp : p.op.length ≤ 10) : (opF ss p).length ≤ 30 := by
  have := name_len h p.stage
  unfold opF
  split <;> simp <;> omega
theorem stepF_len {w : World} {B : Nat} {ss : List DsM} (h : TOk ss) {p : DpM} (hp : p.op.length ≤ 10) (hs : StpOk w B p) : (stepF ss p).length ≤ 29300000 := by
  have h1 := opF_len h hp
  have h2 := wrdsF_len (l := p.ms.drop p.d) (fun m hm => hs.ok m (List.mem_of_mem_drop hm)) (by rw [List.length_drop]; have := hs.len; omega)
  unfold stepF
  simp only [List.length_append, List.length_cons, List.length_nil]; omega
theorem stepsF_len {w : World} {B : Nat} {ss : List DsM} (h : TOk ss) {l : List DpM} (hp : ∀ p ∈ l, p.op.length ≤ 10 ∧ StpOk w B p) (hl : l.length ≤ 24) : (stepsF ss l).length ≤ 703200000 := by
  have := flat_le (stepF ss) 29300000 l (fun p hm => stepF_len h (hp p hm).1 (hp p hm).2)
  unfold stepsF; omega
theorem headF_len {ss : List DsM} (h : TOk ss) {s : DsM} (hs : s.name.length ≤ 10) : (headF ss s).length ≤ 40 := by
  have := title_len h s.base
  unfold headF
  split <;> simp <;> omega
theorem stgsF_len {w : World} {B : Nat} {v : Value} {ss : List DsM} (h : TOk ss) (hS : StD w B v ss) (l : List DsM) (hm : ∀ s ∈ l, s ∈ ss) (hl : l.length ≤ 5) : (stgsF ss l).length ≤ 4000000000 := by
  have := flat_le (stgF ss) 703200040 l (fun s hs => by
    have h1 := headF_len h (h.name s (hm s hs))
    have h2 := stepsF_len (w := w) (B := B) h (l := s.steps) (fun p hp => ⟨(h.op s (hm s hs) p hp).1, (hS.all s (hm s hs)).each p hp⟩) (h.steps s (hm s hs))
    unfold stgF; rw [List.length_append]; omega)
  unfold stgsF; omega
set_option maxHeartbeats 20000000 in
set_option maxRecDepth 10000 in
theorem text_doc (v : Value) (ss : List DsM) (B : Nat) (w : World) (hS : StD w B v ss) (hT : TOk ss) :
    Calls Tryz.prog 6 #[v] w fun ev w' => ev = .returned (.string (bt (stgsF ss ss))) ∧ Below w.heap.size w w' := by
  obtain ⟨av, nv, cv, hv⟩ := row_form hS.row
  subst hv
  obtain rfl : nv = ss.length := row_len hS.row
  have HS := hide hS
  have HT := hide hT
  have hss5 := hT.len
  clear hS hT
  go_enter Tryz.func6, Tryz.ntmps6
  go_wp2_with fail
  go_loopw [3, 4] (fun b i wr => ∃ j : Nat, i = .int .i64 (j : Int) ∧ j ≤ ss.length ∧ b = .string (bt (stgsF ss (ss.take j))) ∧ Below w.heap.size w wr) (fun _ i _ => ss.length - (intOf i).toNat)
  case atStart => exact ⟨0, rfl, Nat.zero_le _, rfl, Below.refl _ _⟩
  case round =>
    obtain ⟨j, rfl, hj, rfl, hB⟩ := hrel
    by_cases hlt : j < ss.length
    case neg =>
      obtain rfl : j = ss.length := by omega
      rw [List.take_length]
      go_wp2_with fail
      go_ret
      exact ⟨rfl, hB⟩
    obtain ⟨gs, cs, hgs, _, _⟩ := World.ownsRow.form (unhide HS).row (by omega)
    injection hgs with e1 _ e3
    subst e1 e3
    obtain ⟨s, hs⟩ : ∃ s, ss[j]? = some s := ⟨_, List.getElem?_eq_getElem hlt⟩
    have hsm := List.mem_of_getElem? hs
    have hcs : ∀ wx, Below w.heap.size w wx → ∀ (i d : Nat) (a : DsM), ss[i]? = some a → d < 4 → wx.cell? ⟨gs, i * 4 + d, none⟩ = a.cells[d]? := fun wx hb i d a ha hd => StR.cell ((unhide HS).below hb).row ha d hd
    have HCS := hide hcs
    have hso := (unhide HS).all s hsm
    obtain ⟨sa, sn, sc, hsv⟩ := row_form hso.steps
    have hsn : sn = s.steps.length := by have := hso.steps; rw [hsv] at this; exact row_len this
    subst hsn
    have q0 : wr.cell? ⟨gs, j * 4, none⟩ = some (.string (bt s.name)) := hcs wr hB j 0 s hs (by omega)
    have q1 : wr.cell? ⟨gs, j * 4 + 1, none⟩ = some (.int .i64 s.base) := hcs wr hB j 1 s hs (by omega)
    have HQ2 : Hid (∀ wx, Below w.heap.size w wx → wx.cell? ⟨gs, j * 4 + 2, none⟩ = some (.slice sa s.steps.length sc)) := hide (fun wx hb => by rw [← hsv]; exact hcs wx hb j 2 s hs (by omega))
    have hTi := title_doc (.slice (some ⟨gs, 0, none⟩) ss.length cv) ss s.base B wr ((unhide HS).below hB).row (by omega) ((unhide HT).base s hsm)
    obtain ⟨acc, hacc⟩ : ∃ acc, stgsF ss (ss.take j) = acc := ⟨_, rfl⟩
    have hal : (bt acc).size ≤ 4000000000 := by rw [bt_size, ← hacc]; exact stgsF_len (unhide HT) (unhide HS) _ (fun x hx => List.mem_of_mem_take hx) (by rw [List.length_take]; omega)
    have HTK := hide (stgsF_take (ss := ss) hs)
    rw [hacc] at HTK
    rw [hacc]
    obtain ⟨ti, hti⟩ : ∃ ti, titleD ss s.base = ti := ⟨_, rfl⟩
    have htl : (bt ti).size ≤ 10 := by rw [bt_size, ← hti]; exact title_len (unhide HT) _
    rw [hti] at hTi
    have f1 : ¬ 9223372036854775807 < (bt acc).size + 5 := by omega
    have f2 : ¬ 9223372036854775807 < (bt acc).size + 5 + (bt ti).size := by omega
    have hnl : (bt s.name).size ≤ 10 := by rw [bt_size]; exact (unhide HT).name s hsm
    have hspl := (unhide HT).steps s hsm
    have HSO := hide hso
    have HS1 := hide hs
    clear hcs hacc hso
    go_upto_region 7 with (first
      | (go_at_call 16; refine hTi.mono ?_; clear hTi; rintro ev w2 ⟨rfl, hw2⟩; obtain rfl := hw2.symm))
    obtain ⟨acc1, hacc1⟩ : ∃ acc1, acc ++ wF ++ ti = acc1 := ⟨_, rfl⟩
    have e1 : bt acc ++ (⟨#[70, 82, 79, 77, 32]⟩ : ByteArray) ++ bt ti = bt acc1 := by rw [show (⟨#[70, 82, 79, 77, 32]⟩ : ByteArray) = bt wF from rfl, bt_app, bt_app, hacc1]
    rw [e1]
    have hal1 : (bt acc1).size ≤ 4000000020 := by rw [bt_size, ← hacc1, List.length_append, List.length_append]; rw [bt_size] at hal htl; have : wF.length = 5 := rfl; omega
    clear e1 f1 f2
    by_cases hnm : s.name = []
    · have gv : (bt s.name).toList.isEmpty = true := by rw [bt_isE, hnm]; rfl
      have HNM := hide hnm
      clear hnm
      go_upto_region 9 with fail
      obtain ⟨acc2, hacc2⟩ : ∃ a, acc1 = a := ⟨_, rfl⟩
      have hal2 : (bt acc2).size ≤ 4000000040 := by rw [← hacc2]; omega
      rw [hacc2]
      obtain ⟨acc3, hacc3⟩ : ∃ acc3, acc2 ++ [10] = acc3 := ⟨_, rfl⟩
      have f5 : ¬ 9223372036854775807 < (bt acc2).size + 1 := by omega
      go_upto_region 10 with fail
      have e3 : bt acc2 ++ (⟨#[10]⟩ : ByteArray) = bt acc3 := by rw [show (⟨#[10]⟩ : ByteArray) = bt [10] from rfl, bt_app, hacc3]
      rw [e3]
      have hal3 : (bt acc3).size ≤ 4000000100 := by rw [bt_size, ← hacc3, List.length_append]; rw [bt_size] at hal2; simp only [List.length_cons, List.length_nil]; omega
      have HH : Hid (acc ++ headF ss s = acc3) := hide (by rw [← hacc3, ← hacc2, ← hacc1]; unfold headF; rw [hti]; rw [if_pos (unhide HNM)]; simp)
      clear e3 f5 hacc3 hacc2 hacc1 gv
      have q2 := unhide HQ2 wr hB
      go_wp2_with fail
      go_loopw [3, 6] (fun b i wq => ∃ kk : Nat, i = .int .i64 (kk : Int) ∧ kk ≤ s.steps.length ∧ b = .string (bt (acc3 ++ stepsF ss (s.steps.take kk))) ∧ Below w.heap.size w wq) (fun _ i _ => s.steps.length - (intOf i).toNat)
      case atStart => exact ⟨0, rfl, Nat.zero_le _, by simp [stepsF], hB⟩
      case round =>
        obtain ⟨kk, rfl, hkk, rfl, hBq⟩ := hrel
        obtain ⟨WRQ, hWRQ⟩ : ∃ W, W = wr := ⟨_, rfl⟩
        rw [← hWRQ] at hBq ⊢
        clear hWRQ
        clear q0 q1 q2
        have q2 := unhide HQ2 WRQ hBq
        by_cases hkl : kk < s.steps.length
        case neg =>
          obtain rfl : kk = s.steps.length := by omega
          rw [List.take_length]
          have e9 : acc3 ++ stepsF ss s.steps = stgsF ss (ss.take (j + 1)) := by rw [unhide HTK, ← unhide HH]; unfold stgF; simp
          rw [e9]
          go_wp2_with fail
          go_roundw
          case rel =>
            first
              | exact ⟨j + 1, by go_num, hlt, rfl, hBq⟩
              | ((repeat apply Exists.intro); exact ⟨⟨j + 1, by go_num, hlt, rfl, hBq⟩, rfl⟩)
          case measure => simp [intOf]; omega
        obtain ⟨gp, cp, hgp, _, _⟩ := World.ownsRow.form (unhide HSO).steps (by omega)
        rw [hsv] at hgp
        injection hgp with e1 _ e3
        subst e1 e3
        obtain ⟨p, hp⟩ : ∃ p, s.steps[kk]? = some p := ⟨_, List.getElem?_eq_getElem hkl⟩
        have hpm := List.mem_of_getElem? hp
        have hpo := (unhide HSO).each p hpm
        obtain ⟨gw, capw, cpw, hwv, hlv⟩ := hpo.lie
        have hpc : ∀ d, d < 4 → WRQ.cell? ⟨gp, kk * 4 + d, none⟩ = p.cells[d]? := fun d hd => by
          have hr := (unhide HSO).steps
          rw [hsv] at hr
          have hq : w.cell? ⟨gp, kk * 4 + d, none⟩ = (dpC s.steps)[kk * 4 + d]? := World.ownsRow.cellAt hr _ (by omega)
          rw [World.cell?_of_block (hBq.block gp (World.ownsRow.lt hr gp rfl).2), hq, dpC_at s.steps kk p d hp hd]
        have r0 : WRQ.cell? ⟨gp, kk * 4, none⟩ = some (.string (bt p.op)) := hpc 0 (by omega)
        have r1 : WRQ.cell? ⟨gp, kk * 4 + 1, none⟩ = some (.slice (some ⟨gw, p.d * 2, none⟩) (p.ms.length - p.d) cpw) := by rw [← hlv]; exact hpc 1 (by omega)
        have r2 : WRQ.cell? ⟨gp, kk * 4 + 2, none⟩ = some (.int .i64 p.stage) := hpc 2 (by omega)
        have r3 : WRQ.cell? ⟨gp, kk * 4 + 3, none⟩ = some (.int .i64 (p.place : Int)) := hpc 3 (by omega)
        obtain ⟨hopl, hstl⟩ := (unhide HT).op s hsm p hpm
        have hopb : (bt p.op).size ≤ 10 := by rw [bt_size]; exact hopl
        obtain ⟨ac, hac⟩ : ∃ ac, acc3 ++ stepsF ss (s.steps.take kk) = ac := ⟨_, rfl⟩
        have hacl : (bt ac).size ≤ 5000000000 := by
          rw [bt_size, ← hac, List.length_append]
          have h1 := stepsF_len (w := w) (B := B) (unhide HT) (l := s.steps.take kk) (fun x hx => ⟨((unhide HT).op s hsm x (List.mem_of_mem_take hx)).1, (unhide HSO).each x (List.mem_of_mem_take hx)⟩) (by rw [List.length_take]; omega)
          rw [bt_size] at hal3
          omega
        have HTS := hide (stepsF_take (ss := ss) hp)
        have HAC := hide hac
        rw [hac]
        have f6 : ¬ 9223372036854775807 < (bt ac).size + (bt p.op).size := by omega
        have HPO := hide hpo
        clear hpc hac hp hpo
        go_upto_region 14 with fail
        obtain ⟨W1, hW1⟩ : ∃ W1, W1 = WRQ.alloc (.cells #[.string (bt p.op), .slice (some ⟨gw, p.d * 2, none⟩) (p.ms.length - p.d) cpw, .int .i64 p.stage, .int .i64 (p.place : Int)] 58) := ⟨_, rfl⟩
        have hB1 : Below w.heap.size w W1 := by rw [hW1]; exact hBq.alloc hBq.size _
        have x58 : W1.heap[WRQ.heap.size]? = some (.cells #[.string (bt p.op), .slice (some ⟨gw, p.d * 2, none⟩) (p.ms.length - p.d) cpw, .int .i64 p.stage, .int .i64 (p.place : Int)] 58 (0, 0)) := by rw [hW1]; exact heap_alloc_new _ _
        have hx1 : WRQ.heap.size < W1.heap.size := by rw [hW1]; simp
        rw [← hW1]
        clear hW1
        have u0 : W1.cell? ⟨WRQ.heap.size, 0, none⟩ = some (.string (bt p.op)) := cell_of_row _ _ 0 _ _ _ x58
        have u1 : W1.cell? ⟨WRQ.heap.size, 1, none⟩ = some (.slice (some ⟨gw, p.d * 2, none⟩) (p.ms.length - p.d) cpw) := cell_of_row _ _ 1 _ _ _ x58
        have u2 : W1.cell? ⟨WRQ.heap.size, 2, none⟩ = some (.int .i64 p.stage) := cell_of_row _ _ 2 _ _ _ x58
        have HX := hide x58
        clear x58 r0 r1 r2 r3 q2
        go_upto_region 15 with fail
        rw [bt_app]
        obtain ⟨ac1, hac1⟩ : ∃ a, ac ++ p.op = a := ⟨_, rfl⟩
        have hac1l : (bt ac1).size ≤ 5000000010 := by rw [bt_size, ← hac1, List.length_append]; rw [bt_size] at hacl hopb; omega
        rw [hac1]
        by_cases hst : 0 ≤ p.stage
        · obtain ⟨sk, hske⟩ : ∃ k : Nat, p.stage = (k : Int) := ⟨p.stage.toNat, by omega⟩
          have hskl : sk < ss.length := by omega
          obtain ⟨so, hso'⟩ : ∃ a, ss[sk]? = some a := ⟨_, List.getElem?_eq_getElem hskl⟩
          have v0 : W1.cell? ⟨gs, sk * 4, none⟩ = some (.string (bt so.name)) := unhide HCS W1 hB1 sk 0 so hso' (by omega)
          have hsol : (bt so.name).size ≤ 10 := by rw [bt_size]; exact (unhide HT).name so (List.mem_of_getElem? hso')
          have HOP : Hid (opF ss p = p.op ++ wFr ++ so.name) := hide (by unfold opF nameAt; rw [if_pos hst, hske]; simp [hso'])
          have f7 : ¬ 9223372036854775807 < (bt ac1).size + 8 := by omega
          have f8 : ¬ 9223372036854775807 < (bt ac1).size + 8 + (bt so.name).size := by omega
          rw [hske] at u2
          have hst' : (0 : Int) ≤ (sk : Int) := by omega
          clear hst hso'
          go_upto_region 17 with fail
          obtain ⟨ac2, hac2⟩ : ∃ a, ac1 ++ wFr ++ so.name = a := ⟨_, rfl⟩
          have e4 : bt ac1 ++ (⟨#[32, 45, 45, 102, 114, 111, 109, 61]⟩ : ByteArray) ++ bt so.name = bt ac2 := by rw [show (⟨#[32, 45, 45, 102, 114, 111, 109, 61]⟩ : ByteArray) = bt wFr from rfl, bt_app, bt_app, hac2]
          rw [e4]
          have hac2l : (bt ac2).size ≤ 5000000100 := by rw [bt_size, ← hac2, List.length_append, List.length_append]; rw [bt_size] at hac1l hsol; have : wFr.length = 8 := rfl; omega
          have HAC2 : Hid (ac ++ opF ss p = ac2) := hide (by rw [unhide HOP, ← hac2, ← hac1]; simp)
          clear e4 f7 f8 v0
          clear hac1 hac2 HOP f6
          go_wp2_with fail
          go_loopw [3, 8] (fun b i wz => ∃ nn : Nat, i = .int .i64 (nn : Int) ∧ nn ≤ p.ms.length - p.d ∧ b = .string (bt (ac2 ++ wrdsF ((p.ms.drop p.d).take nn))) ∧ Below w.heap.size w wz ∧ Below W1.heap.size W1 wz) (fun _ i _ => p.ms.length - p.d - (intOf i).toNat)
          case atStart => exact ⟨0, rfl, Nat.zero_le _, by simp [wrdsF], hB1, Below.refl _ _⟩
          case round =>
            obtain ⟨nn, rfl, hnn, rfl, hBz, hBW⟩ := hrel
            have hml : p.ms.length ≤ 1500 := (unhide HPO).len
            have y1 : wr.cell? ⟨WRQ.heap.size, 1, none⟩ = some (.slice (some ⟨gw, p.d * 2, none⟩) (p.ms.length - p.d) cpw) := (World.cell?_of_block (a := ⟨WRQ.heap.size, 1, none⟩) (hBW.block _ hx1)).trans u1
            obtain ⟨ac3, hac3⟩ : ∃ a, ac2 ++ wrdsF ((p.ms.drop p.d).take nn) = a := ⟨_, rfl⟩
            have hac3l : (bt ac3).size ≤ 6000000000 := by
              rw [bt_size, ← hac3, List.length_append]
              have h1 := wrdsF_len (l := (p.ms.drop p.d).take nn) (fun m hm => (unhide HPO).ok m (List.mem_of_mem_drop (List.mem_of_mem_take hm))) (by rw [List.length_take, List.length_drop]; have := (unhide HPO).len; omega)
              rw [bt_size] at hac2l
              omega
            by_cases hnl' : nn < p.ms.length - p.d
            case neg =>
              obtain rfl : nn = p.ms.length - p.d := by omega
              have e7 : ac3 ++ [10] = acc3 ++ stepsF ss (s.steps.take (kk + 1)) := by
                rw [← hac3, List.take_of_length_le (by rw [List.length_drop]; exact Nat.le_refl _), unhide HTS, ← unhide HAC2, ← unhide HAC]; unfold stepF; simp
              have f9 : ¬ 9223372036854775807 < (bt ac3).size + 1 := by omega
              rw [hac3]
              go_wp2_with fail
              have e8 : bt ac3 ++ (⟨#[10]⟩ : ByteArray) = bt (acc3 ++ stepsF ss (s.steps.take (kk + 1))) := by rw [show (⟨#[10]⟩ : ByteArray) = bt [10] from rfl, bt_app, e7]
              rw [e8]
              go_roundw
              case rel =>
                first
                  | exact ⟨kk + 1, by go_num, hkl, rfl, hBz⟩
                  | ((repeat apply Exists.intro); exact ⟨⟨kk + 1, by go_num, hkl, rfl, hBz⟩, rfl⟩)
              case measure => simp [intOf]; omega
            obtain ⟨x, hx⟩ : ∃ x, p.ms[p.d + nn]? = some x := ⟨_, List.getElem?_eq_getElem (by omega)⟩
            have hxm := List.mem_of_getElem? hx
            obtain ⟨hao, hxl⟩ := (unhide HPO).ok x hxm
            have hrow := (unhide HPO).row.all x hxm
            have hwr := (unhide HPO).row.row
            rw [hwv] at hwr
            have hcw : ∀ d, d < 2 → wr.cell? ⟨gw, (p.d + nn) * 2 + d, none⟩ = x.cellsD[d]? := fun d hd => by
              have hq : w.cell? ⟨gw, (p.d + nn) * 2 + d, none⟩ = (wdcD p.ms)[(p.d + nn) * 2 + d]? := World.ownsRow.cellAt hwr _ (by omega)
              rw [World.cell?_of_block (hBz.block gw (World.ownsRow.lt hwr gw rfl).2), hq, wdcD_at p.ms (p.d + nn) x d hx hd]
            obtain ⟨ax, nx, cx, hxv⟩ := row_form hrow
            have o0 : wr.cell? ⟨gw, p.d * 2 + nn * 2, none⟩ = some (.slice ax nx cx) := by rw [← hxv, show p.d * 2 + nn * 2 = (p.d + nn) * 2 + 0 by omega]; exact hcw 0 (by omega)
            have o1 : wr.cell? ⟨gw, p.d * 2 + nn * 2 + 1, none⟩ = some (.int .i64 (x.place : Int)) := by rw [show p.d * 2 + nn * 2 + 1 = (p.d + nn) * 2 + 1 by omega]; exact hcw 1 (by omega)
            have hFm := form_doc x.v x.xs x.place B wr (row_same hrow fun q hq => hBz.block q (World.ownsRow.lt hrow q hq).2) hao hxl
            rw [hxv] at hFm
            have hfl : (bt (formD x.xs)).size ≤ 19502 := by rw [bt_size]; exact formD_len hao hxl
            have HTW : Hid (wrdsF ((p.ms.drop p.d).take (nn + 1)) = wrdsF ((p.ms.drop p.d).take nn) ++ wrdF x) := hide (wrdsF_take (by rw [List.getElem?_drop]; exact hx))
            obtain ⟨fx, hfx⟩ : ∃ f, formD x.xs = f := ⟨_, rfl⟩
            have HFX := hide hfx
            rw [hfx] at hFm hfl
            have f9 : ¬ 9223372036854775807 < (bt ac3).size + 1 := by omega
            have f10 : ¬ 9223372036854775807 < (bt ac3).size + 1 + (bt fx).size := by omega
            have HAC3 := hide hac3
            rw [hac3]
            clear hcw hx hrow hwr hxv hao hfx hac3
            go_wp2_with (first
              | (go_at_call 17; refine hFm.mono ?_; clear hFm; rintro ev wz ⟨rfl, hbz⟩))
            have e8 : bt ac3 ++ (⟨#[32]⟩ : ByteArray) ++ bt fx = bt (ac2 ++ wrdsF ((p.ms.drop p.d).take (nn + 1))) := by
              rw [unhide HTW, show (⟨#[32]⟩ : ByteArray) = bt [32] from rfl, bt_app, bt_app, ← unhide HAC3]; unfold wrdF; rw [unhide HFX]; simp
            rw [e8]
            go_roundw
            case rel =>
              first
                | exact ⟨nn + 1, by go_num, hnl', rfl, hBz.trans (hbz.mono hBz.size), hBW.trans (hbz.mono hBW.size)⟩
                | ((repeat apply Exists.intro); exact ⟨⟨nn + 1, by go_num, hnl', rfl, hBz.trans (hbz.mono hBz.size), hBW.trans (hbz.mono hBW.size)⟩, rfl⟩)
            case measure => simp [intOf]; omega
        · have HOP : Hid (opF ss p = p.op) := hide (by unfold opF; rw [if_neg hst]; simp)
          have hst' : ¬ (0 : Int) ≤ p.stage := hst
          go_upto_region 17 with fail
          obtain ⟨ac2, hac2⟩ : ∃ a, ac1 = a := ⟨_, rfl⟩
          have hac2l : (bt ac2).size ≤ 5000000100 := by rw [← hac2]; omega
          have HAC2 : Hid (ac ++ opF ss p = ac2) := hide (by rw [unhide HOP, ← hac2, ← hac1])
          rw [hac2]
          clear hst
          clear hac1 hac2 HOP f6
          go_wp2_with fail
          go_loopw [3, 8] (fun b i wz => ∃ nn : Nat, i = .int .i64 (nn : Int) ∧ nn ≤ p.ms.length - p.d ∧ b = .string (bt (ac2 ++ wrdsF ((p.ms.drop p.d).take nn))) ∧ Below w.heap.size w wz ∧ Below W1.heap.size W1 wz) (fun _ i _ => p.ms.length - p.d - (intOf i).toNat)
          case atStart => exact ⟨0, rfl, Nat.zero_le _, by simp [wrdsF], hB1, Below.refl _ _⟩
          case round =>
            obtain ⟨nn, rfl, hnn, rfl, hBz, hBW⟩ := hrel
            have hml : p.ms.length ≤ 1500 := (unhide HPO).len
            have y1 : wr.cell? ⟨WRQ.heap.size, 1, none⟩ = some (.slice (some ⟨gw, p.d * 2, none⟩) (p.ms.length - p.d) cpw) := (World.cell?_of_block (a := ⟨WRQ.heap.size, 1, none⟩) (hBW.block _ hx1)).trans u1
            obtain ⟨ac3, hac3⟩ : ∃ a, ac2 ++ wrdsF ((p.ms.drop p.d).take nn) = a := ⟨_, rfl⟩
            have hac3l : (bt ac3).size ≤ 6000000000 := by
              rw [bt_size, ← hac3, List.length_append]
              have h1 := wrdsF_len (l := (p.ms.drop p.d).take nn) (fun m hm => (unhide HPO).ok m (List.mem_of_mem_drop (List.mem_of_mem_take hm))) (by rw [List.length_take, List.length_drop]; have := (unhide HPO).len; omega)
              rw [bt_size] at hac2l
              omega
            by_cases hnl' : nn < p.ms.length - p.d
            case neg =>
              obtain rfl : nn = p.ms.length - p.d := by omega
              have e7 : ac3 ++ [10] = acc3 ++ stepsF ss (s.steps.take (kk + 1)) := by
                rw [← hac3, List.take_of_length_le (by rw [List.length_drop]; exact Nat.le_refl _), unhide HTS, ← unhide HAC2, ← unhide HAC]; unfold stepF; simp
              have f9 : ¬ 9223372036854775807 < (bt ac3).size + 1 := by omega
              rw [hac3]
              go_wp2_with fail
              have e8 : bt ac3 ++ (⟨#[10]⟩ : ByteArray) = bt (acc3 ++ stepsF ss (s.steps.take (kk + 1))) := by rw [show (⟨#[10]⟩ : ByteArray) = bt [10] from rfl, bt_app, e7]
              rw [e8]
              go_roundw
              case rel =>
                first
                  | exact ⟨kk + 1, by go_num, hkl, rfl, hBz⟩
                  | ((repeat apply Exists.intro); exact ⟨⟨kk + 1, by go_num, hkl, rfl, hBz⟩, rfl⟩)
              case measure => simp [intOf]; omega
            obtain ⟨x, hx⟩ : ∃ x, p.ms[p.d + nn]? = some x := ⟨_, List.getElem?_eq_getElem (by omega)⟩
            have hxm := List.mem_of_getElem? hx
            obtain ⟨hao, hxl⟩ := (unhide HPO).ok x hxm
            have hrow := (unhide HPO).row.all x hxm
            have hwr := (unhide HPO).row.row
            rw [hwv] at hwr
            have hcw : ∀ d, d < 2 → wr.cell? ⟨gw, (p.d + nn) * 2 + d, none⟩ = x.cellsD[d]? := fun d hd => by
              have hq : w.cell? ⟨gw, (p.d + nn) * 2 + d, none⟩ = (wdcD p.ms)[(p.d + nn) * 2 + d]? := World.ownsRow.cellAt hwr _ (by omega)
              rw [World.cell?_of_block (hBz.block gw (World.ownsRow.lt hwr gw rfl).2), hq, wdcD_at p.ms (p.d + nn) x d hx hd]
            obtain ⟨ax, nx, cx, hxv⟩ := row_form hrow
            have o0 : wr.cell? ⟨gw, p.d * 2 + nn * 2, none⟩ = some (.slice ax nx cx) := by rw [← hxv, show p.d * 2 + nn * 2 = (p.d + nn) * 2 + 0 by omega]; exact hcw 0 (by omega)
            have o1 : wr.cell? ⟨gw, p.d * 2 + nn * 2 + 1, none⟩ = some (.int .i64 (x.place : Int)) := by rw [show p.d * 2 + nn * 2 + 1 = (p.d + nn) * 2 + 1 by omega]; exact hcw 1 (by omega)
            have hFm := form_doc x.v x.xs x.place B wr (row_same hrow fun q hq => hBz.block q (World.ownsRow.lt hrow q hq).2) hao hxl
            rw [hxv] at hFm
            have hfl : (bt (formD x.xs)).size ≤ 19502 := by rw [bt_size]; exact formD_len hao hxl
            have HTW : Hid (wrdsF ((p.ms.drop p.d).take (nn + 1)) = wrdsF ((p.ms.drop p.d).take nn) ++ wrdF x) := hide (wrdsF_take (by rw [List.getElem?_drop]; exact hx))
            obtain ⟨fx, hfx⟩ : ∃ f, formD x.xs = f := ⟨_, rfl⟩
            have HFX := hide hfx
            rw [hfx] at hFm hfl
            have f9 : ¬ 9223372036854775807 < (bt ac3).size + 1 := by omega
            have f10 : ¬ 9223372036854775807 < (bt ac3).size + 1 + (bt fx).size := by omega
            have HAC3 := hide hac3
            rw [hac3]
            clear hcw hx hrow hwr hxv hao hfx hac3
            go_wp2_with (first
              | (go_at_call 17; refine hFm.mono ?_; clear hFm; rintro ev wz ⟨rfl, hbz⟩))
            have e8 : bt ac3 ++ (⟨#[32]⟩ : ByteArray) ++ bt fx = bt (ac2 ++ wrdsF ((p.ms.drop p.d).take (nn + 1))) := by
              rw [unhide HTW, show (⟨#[32]⟩ : ByteArray) = bt [32] from rfl, bt_app, bt_app, ← unhide HAC3]; unfold wrdF; rw [unhide HFX]; simp
            rw [e8]
            go_roundw
            case rel =>
              first
                | exact ⟨nn + 1, by go_num, hnl', rfl, hBz.trans (hbz.mono hBz.size), hBW.trans (hbz.mono hBW.size)⟩
                | ((repeat apply Exists.intro); exact ⟨⟨nn + 1, by go_num, hnl', rfl, hBz.trans (hbz.mono hBz.size), hBW.trans (hbz.mono hBW.size)⟩, rfl⟩)
            case measure => simp [intOf]; omega
    · have gv := bt_ne hnm
      have HNM := hide hnm
      clear hnm
      have f3 : ¬ 9223372036854775807 < (bt acc1).size + 4 := by omega
      have f4 : ¬ 9223372036854775807 < (bt acc1).size + 4 + (bt s.name).size := by omega
      go_upto_region 9 with fail
      obtain ⟨acc2, hacc2⟩ : ∃ a, acc1 ++ wA ++ s.name = a := ⟨_, rfl⟩
      have e2 : bt acc1 ++ (⟨#[32, 65, 83, 32]⟩ : ByteArray) ++ bt s.name = bt acc2 := by rw [show (⟨#[32, 65, 83, 32]⟩ : ByteArray) = bt wA from rfl, bt_app, bt_app, hacc2]
      rw [e2]
      have hal2 : (bt acc2).size ≤ 4000000040 := by rw [bt_size, ← hacc2, List.length_append, List.length_append]; rw [bt_size] at hal1 hnl; have : wA.length = 4 := rfl; omega
      clear e2 f3 f4
      obtain ⟨acc3, hacc3⟩ : ∃ acc3, acc2 ++ [10] = acc3 := ⟨_, rfl⟩
      have f5 : ¬ 9223372036854775807 < (bt acc2).size + 1 := by omega
      go_upto_region 10 with fail
      have e3 : bt acc2 ++ (⟨#[10]⟩ : ByteArray) = bt acc3 := by rw [show (⟨#[10]⟩ : ByteArray) = bt [10] from rfl, bt_app, hacc3]
      rw [e3]
      have hal3 : (bt acc3).size ≤ 4000000100 := by rw [bt_size, ← hacc3, List.length_append]; rw [bt_size] at hal2; simp only [List.length_cons, List.length_nil]; omega
      have HH : Hid (acc ++ headF ss s = acc3) := hide (by rw [← hacc3, ← hacc2, ← hacc1]; unfold headF; rw [hti]; rw [if_neg (unhide HNM)]; simp)
      clear e3 f5 hacc3 hacc2 hacc1 gv
      have q2 := unhide HQ2 wr hB
      go_wp2_with fail
      go_loopw [3, 6] (fun b i wq => ∃ kk : Nat, i = .int .i64 (kk : Int) ∧ kk ≤ s.steps.length ∧ b = .string (bt (acc3 ++ stepsF ss (s.steps.take kk))) ∧ Below w.heap.size w wq) (fun _ i _ => s.steps.length - (intOf i).toNat)
      case atStart => exact ⟨0, rfl, Nat.zero_le _, by simp [stepsF], hB⟩
      case round =>
        obtain ⟨kk, rfl, hkk, rfl, hBq⟩ := hrel
        obtain ⟨WRQ, hWRQ⟩ : ∃ W, W = wr := ⟨_, rfl⟩
        rw [← hWRQ] at hBq ⊢
        clear hWRQ
        clear q0 q1 q2
        have q2 := unhide HQ2 WRQ hBq
        by_cases hkl : kk < s.steps.length
        case neg =>
          obtain rfl : kk = s.steps.length := by omega
          rw [List.take_length]
          have e9 : acc3 ++ stepsF ss s.steps = stgsF ss (ss.take (j + 1)) := by rw [unhide HTK, ← unhide HH]; unfold stgF; simp
          rw [e9]
          go_wp2_with fail
          go_roundw
          case rel =>
            first
              | exact ⟨j + 1, by go_num, hlt, rfl, hBq⟩
              | ((repeat apply Exists.intro); exact ⟨⟨j + 1, by go_num, hlt, rfl, hBq⟩, rfl⟩)
          case measure => simp [intOf]; omega
        obtain ⟨gp, cp, hgp, _, _⟩ := World.ownsRow.form (unhide HSO).steps (by omega)
        rw [hsv] at hgp
        injection hgp with e1 _ e3
        subst e1 e3
        obtain ⟨p, hp⟩ : ∃ p, s.steps[kk]? = some p := ⟨_, List.getElem?_eq_getElem hkl⟩
        have hpm := List.mem_of_getElem? hp
        have hpo := (unhide HSO).each p hpm
        obtain ⟨gw, capw, cpw, hwv, hlv⟩ := hpo.lie
        have hpc : ∀ d, d < 4 → WRQ.cell? ⟨gp, kk * 4 + d, none⟩ = p.cells[d]? := fun d hd => by
          have hr := (unhide HSO).steps
          rw [hsv] at hr
          have hq : w.cell? ⟨gp, kk * 4 + d, none⟩ = (dpC s.steps)[kk * 4 + d]? := World.ownsRow.cellAt hr _ (by omega)
          rw [World.cell?_of_block (hBq.block gp (World.ownsRow.lt hr gp rfl).2), hq, dpC_at s.steps kk p d hp hd]
        have r0 : WRQ.cell? ⟨gp, kk * 4, none⟩ = some (.string (bt p.op)) := hpc 0 (by omega)
        have r1 : WRQ.cell? ⟨gp, kk * 4 + 1, none⟩ = some (.slice (some ⟨gw, p.d * 2, none⟩) (p.ms.length - p.d) cpw) := by rw [← hlv]; exact hpc 1 (by omega)
        have r2 : WRQ.cell? ⟨gp, kk * 4 + 2, none⟩ = some (.int .i64 p.stage) := hpc 2 (by omega)
        have r3 : WRQ.cell? ⟨gp, kk * 4 + 3, none⟩ = some (.int .i64 (p.place : Int)) := hpc 3 (by omega)
        obtain ⟨hopl, hstl⟩ := (unhide HT).op s hsm p hpm
        have hopb : (bt p.op).size ≤ 10 := by rw [bt_size]; exact hopl
        obtain ⟨ac, hac⟩ : ∃ ac, acc3 ++ stepsF ss (s.steps.take kk) = ac := ⟨_, rfl⟩
        have hacl : (bt ac).size ≤ 5000000000 := by
          rw [bt_size, ← hac, List.length_append]
          have h1 := stepsF_len (w := w) (B := B) (unhide HT) (l := s.steps.take kk) (fun x hx => ⟨((unhide HT).op s hsm x (List.mem_of_mem_take hx)).1, (unhide HSO).each x (List.mem_of_mem_take hx)⟩) (by rw [List.length_take]; omega)
          rw [bt_size] at hal3
          omega
        have HTS := hide (stepsF_take (ss := ss) hp)
        have HAC := hide hac
        rw [hac]
        have f6 : ¬ 9223372036854775807 < (bt ac).size + (bt p.op).size := by omega
        have HPO := hide hpo
        clear hpc hac hp hpo
        go_upto_region 14 with fail
        obtain ⟨W1, hW1⟩ : ∃ W1, W1 = WRQ.alloc (.cells #[.string (bt p.op), .slice (some ⟨gw, p.d * 2, none⟩) (p.ms.length - p.d) cpw, .int .i64 p.stage, .int .i64 (p.place : Int)] 58) := ⟨_, rfl⟩
        have hB1 : Below w.heap.size w W1 := by rw [hW1]; exact hBq.alloc hBq.size _
        have x58 : W1.heap[WRQ.heap.size]? = some (.cells #[.string (bt p.op), .slice (some ⟨gw, p.d * 2, none⟩) (p.ms.length - p.d) cpw, .int .i64 p.stage, .int .i64 (p.place : Int)] 58 (0, 0)) := by rw [hW1]; exact heap_alloc_new _ _
        have hx1 : WRQ.heap.size < W1.heap.size := by rw [hW1]; simp
        rw [← hW1]
        clear hW1
        have u0 : W1.cell? ⟨WRQ.heap.size, 0, none⟩ = some (.string (bt p.op)) := cell_of_row _ _ 0 _ _ _ x58
        have u1 : W1.cell? ⟨WRQ.heap.size, 1, none⟩ = some (.slice (some ⟨gw, p.d * 2, none⟩) (p.ms.length - p.d) cpw) := cell_of_row _ _ 1 _ _ _ x58
        have u2 : W1.cell? ⟨WRQ.heap.size, 2, none⟩ = some (.int .i64 p.stage) := cell_of_row _ _ 2 _ _ _ x58
        have HX := hide x58
        clear x58 r0 r1 r2 r3 q2
        go_upto_region 15 with fail
        rw [bt_app]
        obtain ⟨ac1, hac1⟩ : ∃ a, ac ++ p.op = a := ⟨_, rfl⟩
        have hac1l : (bt ac1).size ≤ 5000000010 := by rw [bt_size, ← hac1, List.length_append]; rw [bt_size] at hacl hopb; omega
        rw [hac1]
        by_cases hst : 0 ≤ p.stage
        · obtain ⟨sk, hske⟩ : ∃ k : Nat, p.stage = (k : Int) := ⟨p.stage.toNat, by omega⟩
          have hskl : sk < ss.length := by omega
          obtain ⟨so, hso'⟩ : ∃ a, ss[sk]? = some a := ⟨_, List.getElem?_eq_getElem hskl⟩
          have v0 : W1.cell? ⟨gs, sk * 4, none⟩ = some (.string (bt so.name)) := unhide HCS W1 hB1 sk 0 so hso' (by omega)
          have hsol : (bt so.name).size ≤ 10 := by rw [bt_size]; exact (unhide HT).name so (List.mem_of_getElem? hso')
          have HOP : Hid (opF ss p = p.op ++ wFr ++ so.name) := hide (by unfold opF nameAt; rw [if_pos hst, hske]; simp [hso'])
          have f7 : ¬ 9223372036854775807 < (bt ac1).size + 8 := by omega
          have f8 : ¬ 9223372036854775807 < (bt ac1).size + 8 + (bt so.name).size := by omega
          rw [hske] at u2
          have hst' : (0 : Int) ≤ (sk : Int) := by omega
          clear hst hso'
          go_upto_region 17 with fail
          obtain ⟨ac2, hac2⟩ : ∃ a, ac1 ++ wFr ++ so.name = a := ⟨_, rfl⟩
          have e4 : bt ac1 ++ (⟨#[32, 45, 45, 102, 114, 111, 109, 61]⟩ : ByteArray) ++ bt so.name = bt ac2 := by rw [show (⟨#[32, 45, 45, 102, 114, 111, 109, 61]⟩ : ByteArray) = bt wFr from rfl, bt_app, bt_app, hac2]
          rw [e4]
          have hac2l : (bt ac2).size ≤ 5000000100 := by rw [bt_size, ← hac2, List.length_append, List.length_append]; rw [bt_size] at hac1l hsol; have : wFr.length = 8 := rfl; omega
          have HAC2 : Hid (ac ++ opF ss p = ac2) := hide (by rw [unhide HOP, ← hac2, ← hac1]; simp)
          clear e4 f7 f8 v0
          clear hac1 hac2 HOP f6
          go_wp2_with fail
          go_loopw [3, 8] (fun b i wz => ∃ nn : Nat, i = .int .i64 (nn : Int) ∧ nn ≤ p.ms.length - p.d ∧ b = .string (bt (ac2 ++ wrdsF ((p.ms.drop p.d).take nn))) ∧ Below w.heap.size w wz ∧ Below W1.heap.size W1 wz) (fun _ i _ => p.ms.length - p.d - (intOf i).toNat)
          case atStart => exact ⟨0, rfl, Nat.zero_le _, by simp [wrdsF], hB1, Below.refl _ _⟩
          case round =>
            obtain ⟨nn, rfl, hnn, rfl, hBz, hBW⟩ := hrel
            have hml : p.ms.length ≤ 1500 := (unhide HPO).len
            have y1 : wr.cell? ⟨WRQ.heap.size, 1, none⟩ = some (.slice (some ⟨gw, p.d * 2, none⟩) (p.ms.length - p.d) cpw) := (World.cell?_of_block (a := ⟨WRQ.heap.size, 1, none⟩) (hBW.block _ hx1)).trans u1
            obtain ⟨ac3, hac3⟩ : ∃ a, ac2 ++ wrdsF ((p.ms.drop p.d).take nn) = a := ⟨_, rfl⟩
            have hac3l : (bt ac3).size ≤ 6000000000 := by
              rw [bt_size, ← hac3, List.length_append]
              have h1 := wrdsF_len (l := (p.ms.drop p.d).take nn) (fun m hm => (unhide HPO).ok m (List.mem_of_mem_drop (List.mem_of_mem_take hm))) (by rw [List.length_take, List.length_drop]; have := (unhide HPO).len; omega)
              rw [bt_size] at hac2l
              omega
            by_cases hnl' : nn < p.ms.length - p.d
            case neg =>
              obtain rfl : nn = p.ms.length - p.d := by omega
              have e7 : ac3 ++ [10] = acc3 ++ stepsF ss (s.steps.take (kk + 1)) := by
                rw [← hac3, List.take_of_length_le (by rw [List.length_drop]; exact Nat.le_refl _), unhide HTS, ← unhide HAC2, ← unhide HAC]; unfold stepF; simp
              have f9 : ¬ 9223372036854775807 < (bt ac3).size + 1 := by omega
              rw [hac3]
              go_wp2_with fail
              have e8 : bt ac3 ++ (⟨#[10]⟩ : ByteArray) = bt (acc3 ++ stepsF ss (s.steps.take (kk + 1))) := by rw [show (⟨#[10]⟩ : ByteArray) = bt [10] from rfl, bt_app, e7]
              rw [e8]
              go_roundw
              case rel =>
                first
                  | exact ⟨kk + 1, by go_num, hkl, rfl, hBz⟩
                  | ((repeat apply Exists.intro); exact ⟨⟨kk + 1, by go_num, hkl, rfl, hBz⟩, rfl⟩)
              case measure => simp [intOf]; omega
            obtain ⟨x, hx⟩ : ∃ x, p.ms[p.d + nn]? = some x := ⟨_, List.getElem?_eq_getElem (by omega)⟩
            have hxm := List.mem_of_getElem? hx
            obtain ⟨hao, hxl⟩ := (unhide HPO).ok x hxm
            have hrow := (unhide HPO).row.all x hxm
            have hwr := (unhide HPO).row.row
            rw [hwv] at hwr
            have hcw : ∀ d, d < 2 → wr.cell? ⟨gw, (p.d + nn) * 2 + d, none⟩ = x.cellsD[d]? := fun d hd => by
              have hq : w.cell? ⟨gw, (p.d + nn) * 2 + d, none⟩ = (wdcD p.ms)[(p.d + nn) * 2 + d]? := World.ownsRow.cellAt hwr _ (by omega)
              rw [World.cell?_of_block (hBz.block gw (World.ownsRow.lt hwr gw rfl).2), hq, wdcD_at p.ms (p.d + nn) x d hx hd]
            obtain ⟨ax, nx, cx, hxv⟩ := row_form hrow
            have o0 : wr.cell? ⟨gw, p.d * 2 + nn * 2, none⟩ = some (.slice ax nx cx) := by rw [← hxv, show p.d * 2 + nn * 2 = (p.d + nn) * 2 + 0 by omega]; exact hcw 0 (by omega)
            have o1 : wr.cell? ⟨gw, p.d * 2 + nn * 2 + 1, none⟩ = some (.int .i64 (x.place : Int)) := by rw [show p.d * 2 + nn * 2 + 1 = (p.d + nn) * 2 + 1 by omega]; exact hcw 1 (by omega)
            have hFm := form_doc x.v x.xs x.place B wr (row_same hrow fun q hq => hBz.block q (World.ownsRow.lt hrow q hq).2) hao hxl
            rw [hxv] at hFm
            have hfl : (bt (formD x.xs)).size ≤ 19502 := by rw [bt_size]; exact formD_len hao hxl
            have HTW : Hid (wrdsF ((p.ms.drop p.d).take (nn + 1)) = wrdsF ((p.ms.drop p.d).take nn) ++ wrdF x) := hide (wrdsF_take (by rw [List.getElem?_drop]; exact hx))
            obtain ⟨fx, hfx⟩ : ∃ f, formD x.xs = f := ⟨_, rfl⟩
            have HFX := hide hfx
            rw [hfx] at hFm hfl
            have f9 : ¬ 9223372036854775807 < (bt ac3).size + 1 := by omega
            have f10 : ¬ 9223372036854775807 < (bt ac3).size + 1 + (bt fx).size := by omega
            have HAC3 := hide hac3
            rw [hac3]
            clear hcw hx hrow hwr hxv hao hfx hac3
            go_wp2_with (first
              | (go_at_call 17; refine hFm.mono ?_; clear hFm; rintro ev wz ⟨rfl, hbz⟩))
            have e8 : bt ac3 ++ (⟨#[32]⟩ : ByteArray) ++ bt fx = bt (ac2 ++ wrdsF ((p.ms.drop p.d).take (nn + 1))) := by
              rw [unhide HTW, show (⟨#[32]⟩ : ByteArray) = bt [32] from rfl, bt_app, bt_app, ← unhide HAC3]; unfold wrdF; rw [unhide HFX]; simp
            rw [e8]
            go_roundw
            case rel =>
              first
                | exact ⟨nn + 1, by go_num, hnl', rfl, hBz.trans (hbz.mono hBz.size), hBW.trans (hbz.mono hBW.size)⟩
                | ((repeat apply Exists.intro); exact ⟨⟨nn + 1, by go_num, hnl', rfl, hBz.trans (hbz.mono hBz.size), hBW.trans (hbz.mono hBW.size)⟩, rfl⟩)
            case measure => simp [intOf]; omega
        · have HOP : Hid (opF ss p = p.op) := hide (by unfold opF; rw [if_neg hst]; simp)
          have hst' : ¬ (0 : Int) ≤ p.stage := hst
          go_upto_region 17 with fail
          obtain ⟨ac2, hac2⟩ : ∃ a, ac1 = a := ⟨_, rfl⟩
          have hac2l : (bt ac2).size ≤ 5000000100 := by rw [← hac2]; omega
          have HAC2 : Hid (ac ++ opF ss p = ac2) := hide (by rw [unhide HOP, ← hac2, ← hac1])
          rw [hac2]
          clear hst
          clear hac1 hac2 HOP f6
          go_wp2_with fail
          go_loopw [3, 8] (fun b i wz => ∃ nn : Nat, i = .int .i64 (nn : Int) ∧ nn ≤ p.ms.length - p.d ∧ b = .string (bt (ac2 ++ wrdsF ((p.ms.drop p.d).take nn))) ∧ Below w.heap.size w wz ∧ Below W1.heap.size W1 wz) (fun _ i _ => p.ms.length - p.d - (intOf i).toNat)
          case atStart => exact ⟨0, rfl, Nat.zero_le _, by simp [wrdsF], hB1, Below.refl _ _⟩
          case round =>
            obtain ⟨nn, rfl, hnn, rfl, hBz, hBW⟩ := hrel
            have hml : p.ms.length ≤ 1500 := (unhide HPO).len
            have y1 : wr.cell? ⟨WRQ.heap.size, 1, none⟩ = some (.slice (some ⟨gw, p.d * 2, none⟩) (p.ms.length - p.d) cpw) := (World.cell?_of_block (a := ⟨WRQ.heap.size, 1, none⟩) (hBW.block _ hx1)).trans u1
            obtain ⟨ac3, hac3⟩ : ∃ a, ac2 ++ wrdsF ((p.ms.drop p.d).take nn) = a := ⟨_, rfl⟩
            have hac3l : (bt ac3).size ≤ 6000000000 := by
              rw [bt_size, ← hac3, List.length_append]
              have h1 := wrdsF_len (l := (p.ms.drop p.d).take nn) (fun m hm => (unhide HPO).ok m (List.mem_of_mem_drop (List.mem_of_mem_take hm))) (by rw [List.length_take, List.length_drop]; have := (unhide HPO).len; omega)
              rw [bt_size] at hac2l
              omega
            by_cases hnl' : nn < p.ms.length - p.d
            case neg =>
              obtain rfl : nn = p.ms.length - p.d := by omega
              have e7 : ac3 ++ [10] = acc3 ++ stepsF ss (s.steps.take (kk + 1)) := by
                rw [← hac3, List.take_of_length_le (by rw [List.length_drop]; exact Nat.le_refl _), unhide HTS, ← unhide HAC2, ← unhide HAC]; unfold stepF; simp
              have f9 : ¬ 9223372036854775807 < (bt ac3).size + 1 := by omega
              rw [hac3]
              go_wp2_with fail
              have e8 : bt ac3 ++ (⟨#[10]⟩ : ByteArray) = bt (acc3 ++ stepsF ss (s.steps.take (kk + 1))) := by rw [show (⟨#[10]⟩ : ByteArray) = bt [10] from rfl, bt_app, e7]
              rw [e8]
              go_roundw
              case rel =>
                first
                  | exact ⟨kk + 1, by go_num, hkl, rfl, hBz⟩
                  | ((repeat apply Exists.intro); exact ⟨⟨kk + 1, by go_num, hkl, rfl, hBz⟩, rfl⟩)
              case measure => simp [intOf]; omega
            obtain ⟨x, hx⟩ : ∃ x, p.ms[p.d + nn]? = some x := ⟨_, List.getElem?_eq_getElem (by omega)⟩
            have hxm := List.mem_of_getElem? hx
            obtain ⟨hao, hxl⟩ := (unhide HPO).ok x hxm
            have hrow := (unhide HPO).row.all x hxm
            have hwr := (unhide HPO).row.row
            rw [hwv] at hwr
            have hcw : ∀ d, d < 2 → wr.cell? ⟨gw, (p.d + nn) * 2 + d, none⟩ = x.cellsD[d]? := fun d hd => by
              have hq : w.cell? ⟨gw, (p.d + nn) * 2 + d, none⟩ = (wdcD p.ms)[(p.d + nn) * 2 + d]? := World.ownsRow.cellAt hwr _ (by omega)
              rw [World.cell?_of_block (hBz.block gw (World.ownsRow.lt hwr gw rfl).2), hq, wdcD_at p.ms (p.d + nn) x d hx hd]
            obtain ⟨ax, nx, cx, hxv⟩ := row_form hrow
            have o0 : wr.cell? ⟨gw, p.d * 2 + nn * 2, none⟩ = some (.slice ax nx cx) := by rw [← hxv, show p.d * 2 + nn * 2 = (p.d + nn) * 2 + 0 by omega]; exact hcw 0 (by omega)
            have o1 : wr.cell? ⟨gw, p.d * 2 + nn * 2 + 1, none⟩ = some (.int .i64 (x.place : Int)) := by rw [show p.d * 2 + nn * 2 + 1 = (p.d + nn) * 2 + 1 by omega]; exact hcw 1 (by omega)
            have hFm := form_doc x.v x.xs x.place B wr (row_same hrow fun q hq => hBz.block q (World.ownsRow.lt hrow q hq).2) hao hxl
            rw [hxv] at hFm
            have hfl : (bt (formD x.xs)).size ≤ 19502 := by rw [bt_size]; exact formD_len hao hxl
            have HTW : Hid (wrdsF ((p.ms.drop p.d).take (nn + 1)) = wrdsF ((p.ms.drop p.d).take nn) ++ wrdF x) := hide (wrdsF_take (by rw [List.getElem?_drop]; exact hx))
            obtain ⟨fx, hfx⟩ : ∃ f, formD x.xs = f := ⟨_, rfl⟩
            have HFX := hide hfx
            rw [hfx] at hFm hfl
            have f9 : ¬ 9223372036854775807 < (bt ac3).size + 1 := by omega
            have f10 : ¬ 9223372036854775807 < (bt ac3).size + 1 + (bt fx).size := by omega
            have HAC3 := hide hac3
            rw [hac3]
            clear hcw hx hrow hwr hxv hao hfx hac3
            go_wp2_with (first
              | (go_at_call 17; refine hFm.mono ?_; clear hFm; rintro ev wz ⟨rfl, hbz⟩))
            have e8 : bt ac3 ++ (⟨#[32]⟩ : ByteArray) ++ bt fx = bt (ac2 ++ wrdsF ((p.ms.drop p.d).take (nn + 1))) := by
              rw [unhide HTW, show (⟨#[32]⟩ : ByteArray) = bt [32] from rfl, bt_app, bt_app, ← unhide HAC3]; unfold wrdF; rw [unhide HFX]; simp
            rw [e8]
            go_roundw
            case rel =>
              first
                | exact ⟨nn + 1, by go_num, hnl', rfl, hBz.trans (hbz.mono hBz.size), hBW.trans (hbz.mono hBW.size)⟩
                | ((repeat apply Exists.intro); exact ⟨⟨nn + 1, by go_num, hnl', rfl, hBz.trans (hbz.mono hBz.size), hBW.trans (hbz.mono hBW.size)⟩, rfl⟩)
            case measure => simp [intOf]; omega
end Go.Proofs.YtjhkeaijcdpaaaaGreatDoor
