import Derived.Test.YtkikhmleffcajaaGreatDoorJBfA
namespace Go.Proofs.YtkikhmleffcajaaGreatDoor
open Go.RowKit Go.Maps

def InM.ins (m : InM) : Ins := ⟨m.ws.map WdM.wd, m.stage⟩
/-- A stage in memory. -/
structure StM where
  name : ByteArray
  iv : Value
  ins : List InM
def StM.cells (s : StM) : List Value := [.string s.name, s.iv]
def StM.stg (s : StM) : Stg := ⟨s.name.data.toList, s.ins.map InM.ins⟩
def inC (l : List InM) : List Value := (l.map InM.cells).flatten
def stC (l : List StM) : List Value := (l.map StM.cells).flatten
theorem inC_len (l : List InM) : (inC l).length = l.length * 6 := by
  induction l with
  | nil => rfl
  | cons a r ih => simp only [inC, List.map_cons, List.flatten_cons, List.length_append, List.length_cons] at ih ⊢; rw [ih]; simp [InM.cells]; omega
theorem stC_len (l : List StM) : (stC l).length = l.length * 2 := by
  induction l with
  | nil => rfl
  | cons a r ih => simp only [stC, List.map_cons, List.flatten_cons, List.length_append, List.length_cons] at ih ⊢; rw [ih]; simp [StM.cells]; omega
theorem inC_snoc (l : List InM) (a : InM) : inC (l ++ [a]) = inC l ++ a.cells := by simp [inC]
theorem stC_snoc (l : List StM) (a : StM) : stC (l ++ [a]) = stC l ++ a.cells := by simp [stC]
theorem inC_at : ∀ (l : List InM) (i : Nat) (m : InM), l[i]? = some m → ∀ j, j < 6 → (inC l)[i * 6 + j]? = m.cells[j]? := by
  intro l
  induction l with
  | nil => intro i m h; simp at h
  | cons a r ih =>
    intro i m h j hj
    have ha : a.cells.length = 6 := rfl
    show (a.cells ++ inC r)[i * 6 + j]? = _
    cases i with
    | zero =>
      simp at h; subst h
      rw [Nat.zero_mul, Nat.zero_add, List.getElem?_append_left (by omega)]
    | succ i =>
      rw [List.getElem?_append_right (by omega), ha, show (i + 1) * 6 + j - 6 = i * 6 + j by omega]
      exact ih i m (by simpa using h) j hj
theorem stC_at : ∀ (l : List StM) (i : Nat) (m : StM), l[i]? = some m → ∀ j, j < 2 → (stC l)[i * 2 + j]? = m.cells[j]? := by
  intro l
  induction l with
  | nil => intro i m h; simp at h
  | cons a r ih =>
    intro i m h j hj
    have ha : a.cells.length = 2 := rfl
    show (a.cells ++ stC r)[i * 2 + j]? = _
    cases i with
    | zero =>
      simp at h; subst h
      rw [Nat.zero_mul, Nat.zero_add, List.getElem?_append_left (by omega)]
    | succ i =>
      rw [List.getElem?_append_right (by omega), ha, show (i + 1) * 2 + j - 2 = i * 2 + j by omega]
      exact ih i m (by simpa using h) j hj
/-- What an instruction in memory keeps to. -/
structure InM.Ok (m : InM) (w : World) (B : Nat) : Prop where
  ws : WsM w B m.wv m.ws
  op : (match m.ws[0]? with | some x => opW x.xs | none => none) = some m.rule
  least : (ruleT m.rule).1 ≤ (m.ws.length : Int) - 1
  small : ∀ x ∈ m.ws, (parts x.xs).length ≤ 1500 ∧ ∀ t, plainW x.xs = some t → t.length ≤ 1500
  short : m.ws.length ≤ 1500
structure StM.Ok (s : StM) (w : World) (B : Nat) : Prop where
  row : w.ownsRow B 99 6 s.iv s.ins.length (inC s.ins)
  all : ∀ m ∈ s.ins, m.Ok w B
  short : s.ins.length ≤ 1500
/-- A file in memory. -/
structure FileM (w : World) (B fb : Nat) (sv : Value) (ss : List StM) : Prop where
  cells : w.heap[fb]? = some (.cells #[sv] 86 (0, 0))
  base : B ≤ fb
  row : w.ownsRow B 103 2 sv ss.length (stC ss)
  all : ∀ s ∈ ss, s.Ok w B
  short : ss.length ≤ 5
theorem WsM.below {w w' : World} {B : Nat} {v : Value} {ms : List WdM} (h : WsM w B v ms) (hb : Below w.heap.size w w') : WsM w' B v ms :=
  ⟨row_same h.row fun k hk => hb.block k (World.ownsRow.lt h.row k hk).2, fun m hm => row_same (h.all m hm) fun k hk => hb.block k (World.ownsRow.lt (h.all m hm) k hk).2⟩
theorem InM.Ok.below {m : InM} {w w' : World} {B : Nat} (h : m.Ok w B) (hb : Below w.heap.size w w') : m.Ok w' B := ⟨h.ws.below hb, h.op, h.least, h.small, h.short⟩
theorem StM.Ok.below {s : StM} {w w' : World} {B : Nat} (h : s.Ok w B) (hb : Below w.heap.size w w') : s.Ok w' B :=
  ⟨row_same h.row fun k hk => hb.block k (World.ownsRow.lt h.row k hk).2, fun m hm => (h.all m hm).below hb, h.short⟩
theorem FileM.lt {w : World} {B fb : Nat} {sv : Value} {ss : List StM} (h : FileM w B fb sv ss) : fb < w.heap.size := (Array.getElem?_eq_some_iff.1 h.cells).1
theorem FileM.below {w w' : World} {B fb : Nat} {sv : Value} {ss : List StM} (h : FileM w B fb sv ss) (hb : Below w.heap.size w w') : FileM w' B fb sv ss :=
  ⟨(hb.block fb h.lt).trans h.cells, h.base, row_same h.row fun k hk => hb.block k (World.ownsRow.lt h.row k hk).2, fun s hs => (h.all s hs).below hb, h.short⟩
theorem FileM.c0 {w : World} {B fb : Nat} {sv : Value} {ss : List StM} (h : FileM w B fb sv ss) : w.cell? ⟨fb, 0, none⟩ = some sv := cell_of_row _ _ 0 _ _ _ h.cells
/-- A stage's cells. -/
theorem st_at {w : World} {B g cap : Nat} {ss : List StM} (h : w.ownsRow B 103 2 (.slice (some ⟨g, 0, none⟩) ss.length cap) ss.length (stC ss)) (i : Nat) (s : StM) (hs : ss[i]? = some s) : w.cell? ⟨g, i * 2, none⟩ = some (.string s.name) ∧ w.cell? ⟨g, i * 2 + 1, none⟩ = some s.iv := by
  have hi := (List.getElem?_eq_some_iff.1 hs).1
  refine ⟨?_, ?_⟩
  · rw [World.ownsRow.cellAt h _ (by omega)]; exact stC_at ss i s hs 0 (by omega)
  · rw [World.ownsRow.cellAt h _ (by omega)]; exact stC_at ss i s hs 1 (by omega)
theorem st_form {w : World} {B : Nat} {s : StM} (h : s.Ok w B) : ∃ ao n cap, s.iv = .slice ao n cap ∧ n = s.ins.length := by
  rcases h.row.2 with ⟨e, h0⟩ | ⟨g, cap, cur, e, _⟩
  · exact ⟨_, _, _, e, h0.symm⟩
  · exact ⟨_, _, _, e, rfl⟩
theorem findIdx_none {α : Type} {p : α → Bool} {l : List α} (h : ∀ (i : Nat) (a : α), l[i]? = some a → p a = false) : l.findIdx? p = none := by
  rw [List.findIdx?_eq_none_iff]
  intro x hx
  obtain ⟨i, hi, rfl⟩ := List.mem_iff_getElem.1 hx
  exact h i _ (List.getElem?_eq_getElem hi)
theorem findIdx_some {α : Type} {p : α → Bool} {l : List α} {k : Nat} {a : α} (hk : l[k]? = some a) (ha : p a = true) (h : ∀ (i : Nat) (b : α), i < k → l[i]? = some b → p b = false) : l.findIdx? p = some k := by
  obtain ⟨hlt, e⟩ := List.getElem?_eq_some_iff.1 hk
  rw [List.findIdx?_eq_some_iff_getElem]
  refine ⟨hlt, by rw [e]; exact ha, fun j hj => ?_⟩
  have := h j _ hj (List.getElem?_eq_getElem (by omega))
  simp [this]
theorem findG_none {ss : List StM} {nm : List UInt8} (h : ∀ (i : Nat) s, ss[i]? = some s → s.name.data.toList ≠ nm) : findG (ss.map StM.stg) nm = -1 := by
  unfold findG
  rw [findIdx_none (fun i a ha => ?_)]
  rw [List.getElem?_map] at ha
  cases hs : ss[i]? with
  | none => rw [hs] at ha; cases ha
  | some s =>
    rw [hs] at ha; cases ha
    simpa [StM.stg] using h i s hs
theorem findG_some {ss : List StM} {nm : List UInt8} {k : Nat} {s : StM} (hk : ss[k]? = some s) (hn : s.name.data.toList = nm) (h : ∀ (i : Nat) s, i < k → ss[i]? = some s → s.name.data.toList ≠ nm) : findG (ss.map StM.stg) nm = k := by
  unfold findG
  rw [findIdx_some (k := k) (a := s.stg) (by rw [List.getElem?_map, hk]; rfl) (by simp [StM.stg, hn]) (fun i b hi hb => ?_)]
  rw [List.getElem?_map] at hb
  cases hs : ss[i]? with
  | none => rw [hs] at hb; cases hb
  | some s' =>
    rw [hs] at hb; cases hb
    simpa [StM.stg] using h i s' hi hs
set_option maxHeartbeats 1000000 in
set_option maxRecDepth 10000 in
theorem find_any (B fb : Nat) (sv : Value) (ss : List StM) (nm : ByteArray) (w : World) (h : FileM w B fb sv ss) :
    Calls Tryz.prog 106 #[.pointer (some ⟨fb, 0, none⟩), .string nm] w fun ev w' => ev = .returned (.int .i64 (findG (ss.map StM.stg) nm.data.toList)) ∧ Below w.heap.size w w' := by
  have c0 := h.c0
  have hsh := h.short
  rcases h.row.2 with ⟨rfl, h0⟩ | ⟨g, cap, cur, rfl, _⟩
  · have e : ss = [] := List.length_eq_zero_iff.1 h0
    subst e
    have HF : Hid (findG (([] : List StM).map StM.stg) nm.data.toList = -1) := hide rfl
    clear h
    go_enter Tryz.func106, Tryz.ntmps106
    go_wp2_with fail
    go_loop [12] (fun i => i = .int .i64 0) (fun _ => 0)
    case atStart => rfl
    case round =>
      subst hrel
      go_wp2
      go_ret
      exact ⟨rfl, Below.refl _ _⟩
  · have HF := hide h
    obtain ⟨n, hn⟩ : ∃ n, n = ss.length := ⟨_, rfl⟩
    have HN := hide hn
    have HROW := hide h.row
    rw [← hn] at c0 hsh
    clear h
    go_enter Tryz.func106, Tryz.ntmps106
    go_wp2_with fail
    go_loopw [12] (fun i wr => ∃ k : Nat, k ≤ n ∧ i = .int .i64 k ∧ Below w.heap.size w wr ∧ (∀ (i : Nat) s, i < k → ss[i]? = some s → s.name.data.toList ≠ nm.data.toList)) (fun i _ => n - (intOf i).toNat)
    case atStart => exact ⟨0, Nat.zero_le _, rfl, Below.refl _ _, fun i s hi => by omega⟩
    case round =>
      obtain ⟨k, hk, rfl, hb, ha⟩ := hrel
      have A := hide ha
      clear ha
      by_cases hlt : k < n
      · have hlt' : k < ss.length := by rw [← unhide HN]; exact hlt
        obtain ⟨s, hs⟩ : ∃ s, ss[k]? = some s := ⟨_, List.getElem?_eq_getElem hlt'⟩
        have hok := (unhide HF).all s (List.mem_of_getElem? hs)
        obtain ⟨q0, q1⟩ := st_at (row_same (unhide HROW) (w' := wr) fun j hj => hb.block j (World.ownsRow.lt (unhide HROW) j hj).2) k s hs
        obtain ⟨ao, n2, cap2, hiv, _⟩ := st_form hok
        rw [hiv] at q1
        have n0 := World.new_ne wr ⟨g, k * 2, none⟩ q0
        clear hok hiv
        by_cases he : s.name.data.toList = nm.data.toList
        · have HR : Hid (findG (ss.map StM.stg) nm.data.toList = (k : Int)) := hide (findG_some hs he (unhide A))
          have g1 : (s.name.toList == nm.toList) = true := by rw [Lib.toList_data, Lib.toList_data, he]; simp
          clear he hs
          go_wp2_with fail
          go_ret
          exact ⟨by rw [unhide HR]; rfl, hb.alloc hb.size _⟩
        · have A2 : Hid (∀ (i : Nat) s, i < k + 1 → ss[i]? = some s → s.name.data.toList ≠ nm.data.toList) := hide (fun i s' hi hs' => by
            by_cases hik : i = k
            · subst hik; rw [hs] at hs'; cases hs'; exact he
            · exact unhide A i s' (by omega) hs')
          have g1 : (s.name.toList == nm.toList) = false := by rw [Lib.toList_data, Lib.toList_data]; simpa using he
          clear he hs
          go_wp2_with fail
          go_roundw
          case rel =>
            first
              | exact ⟨k + 1, by omega, by go_num, hb.alloc hb.size _, unhide A2⟩
              | ((repeat apply Exists.intro); exact ⟨⟨k + 1, by omega, by go_num, hb.alloc hb.size _, unhide A2⟩, rfl⟩)
          case measure => simp [intOf]; omega
      · have HR : Hid (findG (ss.map StM.stg) nm.data.toList = -1) := hide (findG_none (fun i s hs => unhide A i s (by
          have := (List.getElem?_eq_some_iff.1 hs).1
          rw [← unhide HN] at this; omega) hs))
        go_wp2_with fail
        go_ret
        exact ⟨by rw [unhide HR]; rfl, hb⟩
end Go.Proofs.YtkikhmleffcajaaGreatDoor

namespace Go.Proofs.YtkikhmleffcajaaGreatDoor
open Go.RowKit Go.Maps

theorem pln_wd (ms : List WdM) (i : Nat) : pln (ms.map WdM.wd) i = match ms[i]? with | some x => plainW x.xs | none => none := by
  unfold pln
  rw [List.getElem?_map]
  cases ms[i]? <;> rfl
theorem plc_wd {ms : List WdM} {i : Nat} {x : WdM} (h : ms[i]? = some x) : plc (ms.map WdM.wd) i = x.place := by
  unfold plc
  rw [List.getElem?_map, h]; rfl
theorem in_first {m : InM} {w : World} {B : Nat} (h : m.Ok w B) : ∃ x, m.ws[0]? = some x ∧ opW x.xs = some m.rule := by
  have := h.op
  cases hx : m.ws[0]? with
  | none => rw [hx] at this; cases this
  | some x => rw [hx] at this; exact ⟨x, rfl, this⟩
set_option maxHeartbeats 1000000 in
set_option maxRecDepth 10000 in
theorem in_is (m : InM) (x : WdM) (t : ByteArray) (B : Nat) (w : World) (h : WsM w B m.wv m.ws) (h0 : m.ws[0]? = some x) (hl : (parts x.xs).length ≤ 1500) :
    Calls Tryz.prog 70 #[m.val, .string t] w fun ev w' => ev = .returned (.bool (plainW x.xs == some t.data.toList)) ∧ Below w.heap.size w w' := by
  obtain ⟨g, cap, hv, q0, q1, hg⟩ := wd_at h 0 x h0
  have hok := h.all x (List.mem_of_getElem? h0)
  have hl0 : 0 < m.ws.length := (List.getElem?_eq_some_iff.1 h0).1
  have hb0 : Below w.heap.size w (w.alloc (.cells #[m.wv, .int .i64 m.stage, .int .i64 (ruleT m.rule).1, .int .i64 (ruleT m.rule).2.1, fnV (ruleT m.rule).2.2.1, fnV (ruleT m.rule).2.2.2] 99)) := (Below.refl _ _).alloc (Nat.le_refl _) _
  have hI := isM_any x t B _ (row_same hok (w' := w.alloc (.cells #[m.wv, .int .i64 m.stage, .int .i64 (ruleT m.rule).1, .int .i64 (ruleT m.rule).2.1, fnV (ruleT m.rule).2.2.1, fnV (ruleT m.rule).2.2.2] 99)) fun k hk => hb0.block k (World.ownsRow.lt hok k hk).2) hl
  obtain ⟨ao, n', cap', hxv⟩ := row_form hok
  rw [hxv] at q1
  obtain ⟨bb, hbb⟩ : ∃ bb, bb = (plainW x.xs == some t.data.toList) := ⟨_, rfl⟩
  rw [← hbb] at hI ⊢
  obtain ⟨pl, vv, xx⟩ := x
  simp only at hxv q0 hI
  subst hxv
  obtain ⟨wv, ws, stage, rule⟩ := m
  simp only at hv hl0 hI hb0 ⊢
  subst hv
  have n0 := World.new_ne w ⟨g, 0, none⟩ q0
  have i1 : (0 : Int) < (ws.length : Int) := by omega
  obtain ⟨n, hn⟩ : ∃ n, n = ws.length := ⟨_, rfl⟩
  rw [← hn] at hI hb0 i1 ⊢
  clear h h0 hok hl0 hn hbb hl
  go_enter Tryz.func70, Tryz.ntmps70
  go_wp2_with (go_at_call 81; refine hI.mono ?_; clear hI; rintro ev w1 ⟨rfl, hb1⟩)
  go_ret
  exact ⟨rfl, hb0.trans (hb1.mono hb0.size)⟩
set_option maxHeartbeats 1000000 in
set_option maxRecDepth 10000 in
theorem base_any (s : StM) (m : InM) (B : Nat) (w : World) (h : s.Ok w B) (h0 : s.ins[0]? = some m) :
    Calls Tryz.prog 82 #[.agg #[.string s.name, s.iv]] w fun ev w' => ev = .returned (.int .i64 m.stage) ∧ Below w.heap.size w w' := by
  have hl0 : 0 < s.ins.length := (List.getElem?_eq_some_iff.1 h0).1
  obtain ⟨g, cap, hv, _, hg⟩ := World.ownsRow.form h.row hl0
  have hrow := h.row
  rw [hv] at hrow
  have q1 : w.cell? ⟨g, 1, none⟩ = some (.int .i64 m.stage) := by
    rw [World.ownsRow.cellAt hrow _ (by omega)]
    have := inC_at s.ins 0 m h0 1 (by omega)
    rw [Nat.zero_mul, Nat.zero_add] at this
    exact this
  have n0 := World.new_ne w ⟨g, 1, none⟩ q1
  rw [hv]
  have i1 : (0 : Int) < (s.ins.length : Int) := by omega
  obtain ⟨n, hn⟩ : ∃ n, n = s.ins.length := ⟨_, rfl⟩
  rw [← hn] at i1 ⊢
  clear h h0 hl0 hv hrow hn
  go_enter Tryz.func82, Tryz.ntmps82
  go_wp2_with fail
  go_ret
  exact ⟨rfl, (Below.refl _ _).alloc (Nat.le_refl _) _⟩
set_option maxHeartbeats 1000000 in
set_option maxRecDepth 10000 in
theorem last_any (B fb g cap : Nat) (ss : List StM) (w : World) (h : FileM w B fb (.slice (some ⟨g, 0, none⟩) ss.length cap) ss) (h0 : 0 < ss.length) :
    Calls Tryz.prog 57 #[.pointer (some ⟨fb, 0, none⟩)] w fun ev w' => ev = .returned (.pointer (some ⟨g, (ss.length - 1) * 2, none⟩)) ∧ Below w.heap.size w w' := by
  have c0 := h.c0
  have hsh := h.short
  obtain ⟨n, hn⟩ : ∃ n, n + 1 = ss.length := ⟨ss.length - 1, by omega⟩
  rw [← hn] at c0 hsh ⊢
  have i3 : IntKind.i64.wrap (((n + 1 : Nat) : Int) - 1) = (n : Int) := by
    rw [show (((n + 1 : Nat) : Int) - 1) = ((n : Nat) : Int) by omega]; exact wrap_i64 n (by omega)
  clear h h0 hn
  go_enter Tryz.func57, Tryz.ntmps57
  go_upto_region 1 with fail
  go_quiet (fail)
  go_wp2
  go_ret
  exact ⟨by simp, below_drewN (Below.refl _ _) _⟩
set_option maxHeartbeats 1000000 in
set_option maxRecDepth 10000 in
theorem size_any (B fb : Nat) (sv : Value) (ss : List StM) (w : World) (h : FileM w B fb sv ss) :
    Calls Tryz.prog 55 #[.pointer (some ⟨fb, 0, none⟩)] w fun ev w' => ev = .returned (.int .i64 (sizeG (ss.map StM.stg) : Nat)) ∧ Below w.heap.size w w' := by
  have c0 := h.c0
  have hsh := h.short
  have sz : ∀ l : List StM, sizeG (l.map StM.stg) = (l.map fun s => s.ins.length).sum := fun l => by
    unfold sizeG; rw [List.map_map]; congr 1; apply List.map_congr_left; intro a _; simp [StM.stg]
  rcases h.row.2 with ⟨rfl, h0⟩ | ⟨g, cap, cur, rfl, _⟩
  · have e : ss = [] := List.length_eq_zero_iff.1 h0
    subst e
    clear h sz
    go_enter Tryz.func55, Tryz.ntmps55
    go_wp2_with fail
    go_loop [3, 11] (fun t i => i = .int .i64 0 ∧ t = .int .i64 0) (fun _ _ => 0)
    case atStart => exact ⟨rfl, rfl⟩
    case round =>
      obtain ⟨rfl, rfl⟩ := hrel
      go_wp2
      go_ret
      exact ⟨rfl, Below.refl _ _⟩
  · have HF := hide h
    obtain ⟨n, hn⟩ : ∃ n, n = ss.length := ⟨_, rfl⟩
    have HN := hide hn
    have HROW := hide h.row
    have HSZ := hide sz
    rw [← hn] at c0 hsh
    clear h sz
    go_enter Tryz.func55, Tryz.ntmps55
    go_wp2_with fail
    go_loopw [3, 11] (fun t i wr => ∃ k : Nat, k ≤ n ∧ i = .int .i64 k ∧ t = .int .i64 (((ss.take k).map fun s => s.ins.length).sum : Nat) ∧ ((ss.take k).map fun s => s.ins.length).sum ≤ k * 1500 ∧ Below w.heap.size w wr) (fun _ i _ => n - (intOf i).toNat)
    case atStart => exact ⟨0, Nat.zero_le _, rfl, rfl, by simp, Below.refl _ _⟩
    case round =>
      obtain ⟨k, hk, rfl, rfl, hle, hb⟩ := hrel
      by_cases hlt : k < n
      · have hlt' : k < ss.length := by rw [← unhide HN]; exact hlt
        obtain ⟨s, hs⟩ : ∃ s, ss[k]? = some s := ⟨_, List.getElem?_eq_getElem hlt'⟩
        have hok := (unhide HF).all s (List.mem_of_getElem? hs)
        obtain ⟨q0, q1⟩ := st_at (row_same (unhide HROW) (w' := wr) fun j hj => hb.block j (World.ownsRow.lt (unhide HROW) j hj).2) k s hs
        obtain ⟨ao, n2, cap2, hiv, hn2⟩ := st_form hok
        rw [hiv] at q1
        have n0 := World.new_ne wr ⟨g, k * 2, none⟩ q0
        have hss := hok.short
        have e2 : ((ss.take (k + 1)).map fun s => s.ins.length).sum = ((ss.take k).map fun s => s.ins.length).sum + n2 := by
          rw [List.take_add_one, hs, List.map_append, List.sum_append]; simp [hn2]
        obtain ⟨T, hT⟩ : ∃ T, T = ((ss.take k).map fun s => s.ins.length).sum := ⟨_, rfl⟩
        rw [← hT] at hle e2 ⊢
        have HE2 := hide e2
        have i4 : IntKind.i64.wrap ((T : Int) + (n2 : Int)) = ((T + n2 : Nat) : Int) := by rw [← Int.natCast_add]; exact wrap_i64 _ (by omega)
        rw [← hn2] at hss
        clear hok hiv hn2 hs e2 hT
        go_wp2_with fail
        go_roundw
        case rel =>
          first
            | exact ⟨k + 1, by omega, by go_num, by rw [unhide HE2]; first | rfl | (rw [Int.natCast_add]), by rw [unhide HE2]; omega, hb.alloc hb.size _⟩
            | ((repeat apply Exists.intro); exact ⟨⟨k + 1, by omega, by go_num, by rw [unhide HE2]; first | rfl | (rw [Int.natCast_add]), by rw [unhide HE2]; omega, hb.alloc hb.size _⟩, rfl⟩)
        case measure => simp [intOf]; omega
      · have hkn : ss.take k = ss := List.take_of_length_le (by rw [← unhide HN]; omega)
        rw [hkn]
        go_wp2_with fail
        go_ret
        exact ⟨by rw [unhide HSZ]; rfl, hb⟩
end Go.Proofs.YtkikhmleffcajaaGreatDoor

namespace Go.Proofs.YtkikhmleffcajaaGreatDoor
open Go.RowKit Go.Maps

theorem in_at {w : World} {B g cap : Nat} {ms : List InM} (h : w.ownsRow B 99 6 (.slice (some ⟨g, 0, none⟩) ms.length cap) ms.length (inC ms)) (i : Nat) (m : InM) (hm : ms[i]? = some m) :
    w.cell? ⟨g, i * 6, none⟩ = some m.wv ∧ w.cell? ⟨g, i * 6 + 1, none⟩ = some (.int .i64 m.stage) ∧ w.cell? ⟨g, i * 6 + 2, none⟩ = some (.int .i64 (ruleT m.rule).1) ∧ w.cell? ⟨g, i * 6 + 3, none⟩ = some (.int .i64 (ruleT m.rule).2.1) ∧ w.cell? ⟨g, i * 6 + 4, none⟩ = some (fnV (ruleT m.rule).2.2.1) ∧ w.cell? ⟨g, i * 6 + 5, none⟩ = some (fnV (ruleT m.rule).2.2.2) := by
  have hi := (List.getElem?_eq_some_iff.1 hm).1
  have key := inC_at ms i m hm
  refine ⟨?_, ?_, ?_, ?_, ?_, ?_⟩
  · rw [World.ownsRow.cellAt h _ (by omega)]; exact key 0 (by omega)
  · rw [World.ownsRow.cellAt h _ (by omega)]; exact key 1 (by omega)
  · rw [World.ownsRow.cellAt h _ (by omega)]; exact key 2 (by omega)
  · rw [World.ownsRow.cellAt h _ (by omega)]; exact key 3 (by omega)
  · rw [World.ownsRow.cellAt h _ (by omega)]; exact key 4 (by omega)
  · rw [World.ownsRow.cellAt h _ (by omega)]; exact key 5 (by omega)
theorem env_rule {m : InM} {w : World} {B : Nat} (h : m.Ok w B) {x : WdM} (hx : m.ws[0]? = some x) (he : plainW x.xs = some wENV) : ∃ y, m.ws[1]? = some y := by
  obtain ⟨x', hx', ho⟩ := in_first h
  rw [hx] at hx'; cases hx'
  unfold opW at ho
  rw [he] at ho
  have h6 : m.rule = 6 := by
    have : opN wENV = some 6 := by decide
    have ho' : opN wENV = some m.rule := ho
    rw [this] at ho'; injection ho' with ho'; exact ho'.symm
  have hl := h.least
  rw [h6] at hl
  have : (2 : Int) ≤ (m.ws.length : Int) - 1 := hl
  exact ⟨_, List.getElem?_eq_getElem (by omega)⟩
/-- Is an instruction an ENV of this variable? -/
def envM (nm : List UInt8) (m : InM) : Bool := pln m.ins.ws 0 == some wENV && pln m.ins.ws 1 == some nm
theorem sets_map (s : StM) (nm : List UInt8) : setsG s.stg nm = s.ins.any (envM nm) := by
  unfold setsG StM.stg
  simp only [List.any_map]
  rfl
theorem any_not {α : Type} {p : α → Bool} {l : List α} (h : ∀ (i : Nat) a, l[i]? = some a → p a = false) : l.any p = false := by
  rw [List.any_eq_false]
  intro x hx
  obtain ⟨i, hi, rfl⟩ := List.mem_iff_getElem.1 hx
  simp [h i _ (List.getElem?_eq_getElem hi)]
theorem any_yes {α : Type} {p : α → Bool} {l : List α} {k : Nat} {a : α} (hk : l[k]? = some a) (ha : p a = true) : l.any p = true :=
  List.any_eq_true.2 ⟨a, List.mem_of_getElem? hk, ha⟩
set_option maxHeartbeats 2000000 in
set_option maxRecDepth 10000 in
theorem sets_any (s : StM) (nm : ByteArray) (B : Nat) (w : World) (h : s.Ok w B) :
    Calls Tryz.prog 83 #[.agg #[.string s.name, s.iv], .string nm] w fun ev w' => ev = .returned (.bool (setsG s.stg nm.data.toList)) ∧ Below w.heap.size w w' := by
  rw [sets_map]
  have hsh := h.short
  rcases h.row.2 with ⟨hv, h0⟩ | ⟨g, cap, cur, hv, _⟩
  · have e : s.ins = [] := List.length_eq_zero_iff.1 h0
    rw [hv, e]
    clear h
    have hb0 : Below w.heap.size w (w.alloc (.cells #[.string s.name, .slice none 0 0] 103)) := (Below.refl _ _).alloc (Nat.le_refl _) _
    go_enter Tryz.func83, Tryz.ntmps83
    go_wp2_with fail
    go_loop [10] (fun i => i = .int .i64 0) (fun _ => 0)
    case atStart => rfl
    case round =>
      subst hrel
      go_wp2
      go_ret
      exact ⟨rfl, hb0⟩
  · have HF := hide h
    have hrow := h.row
    rw [hv] at hrow
    have HROW := hide hrow
    obtain ⟨n, hn⟩ : ∃ n, n = s.ins.length := ⟨_, rfl⟩
    have HN := hide hn
    rw [hv, ← hn]
    rw [← hn] at hsh
    clear h hrow hv hn
    have hb0 : Below w.heap.size w (w.alloc (.cells #[.string s.name, .slice (some ⟨g, 0, none⟩) n cap] 103)) := (Below.refl _ _).alloc (Nat.le_refl _) _
    go_enter Tryz.func83, Tryz.ntmps83
    go_wp2_with fail
    go_loopw [10] (fun i wr => ∃ k : Nat, k ≤ n ∧ i = .int .i64 k ∧ Below w.heap.size w wr ∧ (∀ (i : Nat) a, i < k → s.ins[i]? = some a → envM nm.data.toList a = false)) (fun i _ => n - (intOf i).toNat)
    case atStart => exact ⟨0, Nat.zero_le _, rfl, hb0, fun i s hi => by omega⟩
    case round =>
      obtain ⟨k, hk, rfl, hb, ha⟩ := hrel
      have A := hide ha
      clear ha hb0
      by_cases hlt : k < n
      · have hlt' : k < s.ins.length := by rw [← unhide HN]; exact hlt
        obtain ⟨m, hm⟩ : ∃ m, s.ins[k]? = some m := ⟨_, List.getElem?_eq_getElem hlt'⟩
        have hok := (unhide HF).all m (List.mem_of_getElem? hm)
        obtain ⟨q0, q1, q2, q3, q4, q5⟩ := in_at (row_same (unhide HROW) (w' := wr) fun j hj => hb.block j (World.ownsRow.lt (unhide HROW) j hj).2) k m hm
        have hgl : g < wr.heap.size := World.block_lt_of_cell? _ _ q0
        obtain ⟨x, hx, _⟩ := in_first hok
        obtain ⟨g2, cap2, hwv, _⟩ := wd_at hok.ws 0 x hx
        have hxs := (hok.small x (List.mem_of_getElem? hx)).1
        obtain ⟨W1, hW1⟩ : ∃ W1, W1 = wr.alloc (.cells #[m.wv, .int .i64 m.stage, .int .i64 (ruleT m.rule).1, .int .i64 (ruleT m.rule).2.1, fnV (ruleT m.rule).2.2.1, fnV (ruleT m.rule).2.2.2] 99) := ⟨_, rfl⟩
        have hb1 : Below w.heap.size w W1 := by rw [hW1]; exact hb.alloc hb.size _
        have hok1 := hok.below hb1
        have hIs := in_is m x ⟨#[69, 78, 86]⟩ B W1 hok1.ws hx hxs
        have hc1 : W1.heap[wr.heap.size]? = some (.cells #[m.wv, .int .i64 m.stage, .int .i64 (ruleT m.rule).1, .int .i64 (ruleT m.rule).2.1, fnV (ruleT m.rule).2.2.1, fnV (ruleT m.rule).2.2.2] 99 (0, 0)) := by rw [hW1]; exact heap_alloc_new _ _
        have hz1 : wr.heap.size < W1.heap.size := by rw [hW1]; simp
        have hpl0 : pln m.ins.ws 0 = plainW x.xs := by show pln (m.ws.map WdM.wd) 0 = _; rw [pln_wd, hx]
        rw [show (⟨#[69, 78, 86]⟩ : ByteArray).data.toList = wENV from rfl] at hIs
        have r0 : W1.cell? ⟨wr.heap.size, 0, none⟩ = some m.wv := cell_of_row _ _ 0 _ _ _ hc1
        have r1 : W1.cell? ⟨wr.heap.size, 1, none⟩ = some (.int .i64 m.stage) := cell_of_row _ _ 1 _ _ _ hc1
        have r2 : W1.cell? ⟨wr.heap.size, 2, none⟩ = some (.int .i64 (ruleT m.rule).1) := cell_of_row _ _ 2 _ _ _ hc1
        have r3 : W1.cell? ⟨wr.heap.size, 3, none⟩ = some (.int .i64 (ruleT m.rule).2.1) := cell_of_row _ _ 3 _ _ _ hc1
        have r4 : W1.cell? ⟨wr.heap.size, 4, none⟩ = some (fnV (ruleT m.rule).2.2.1) := cell_of_row _ _ 4 _ _ _ hc1
        have r5 : W1.cell? ⟨wr.heap.size, 5, none⟩ = some (fnV (ruleT m.rule).2.2.2) := cell_of_row _ _ 5 _ _ _ hc1
        have n0 := World.new_ne wr ⟨g, k * 6, none⟩ q0
        unfold InM.val at hIs
        rw [hwv] at q0 r0 hIs hW1
        have HM := hide hm
        have HOK := hide hok1
        have HX := hide hx
        have HWV := hide hwv
        have HP0 := hide hpl0
        clear hok hok1 hx hc1 hwv hm hpl0
        go_upto_region 4 with fail
        rw [← hW1]
        clear hW1 q0 q1 q2 q3 q4 q5 n0
        have HB1 := hide hb1
        clear hb1 hb
        cases hb0 : (plainW x.xs == some wENV) with
        | false =>
          have A2 : Hid (∀ (i : Nat) a, i < k + 1 → s.ins[i]? = some a → envM nm.data.toList a = false) := hide (fun i a hi ha => by
            by_cases hik : i = k
            · subst hik; rw [unhide HM] at ha; cases ha
              unfold envM; rw [unhide HP0, hb0]; rfl
            · exact unhide A i a (by omega) ha)
          rw [hb0] at hIs
          clear hb0
          go_wp2_with (go_at_call 70; refine hIs.mono ?_; clear hIs; rintro ev w2 ⟨rfl, hb2⟩)
          go_roundw
          case rel =>
            first
              | exact ⟨k + 1, by omega, by go_num, (unhide HB1).trans (hb2.mono (unhide HB1).size), unhide A2⟩
              | ((repeat apply Exists.intro); exact ⟨⟨k + 1, by omega, by go_num, (unhide HB1).trans (hb2.mono (unhide HB1).size), unhide A2⟩, rfl⟩)
          case measure => simp [intOf]; omega
        | true =>
          have hxe : plainW x.xs = some wENV := by simpa using hb0
          obtain ⟨y, hy⟩ := env_rule (unhide HOK) (unhide HX) hxe
          have hyok := (unhide HOK).ws.all y (List.mem_of_getElem? hy)
          have hys := ((unhide HOK).small y (List.mem_of_getElem? hy)).1
          obtain ⟨g3, cap3, hwv3, y0, y1, _⟩ := wd_at (unhide HOK).ws 1 y hy
          have hwv' := unhide HWV
          rw [hwv3] at hwv'
          injection hwv' with e1 e2 e3
          injection e1 with e1
          injection e1 with e1
          subst e1 e3
          obtain ⟨ao, n', cap', hyv⟩ := row_form hyok
          rw [hyv] at y1
          have HI2 : Hid (∀ w2, Below W1.heap.size W1 w2 → Calls Tryz.prog 81 #[.agg #[.int .i64 (y.place : Int), .slice ao n' cap'], .string nm] w2 fun ev w' => ev = .returned (.bool (plainW y.xs == some nm.data.toList)) ∧ Below w2.heap.size w2 w') := hide (fun w2 hb2 => by
            have := isM_any y nm B w2 (row_same hyok fun j hj => hb2.block j (World.ownsRow.lt hyok j hj).2) hys
            unfold WdM.val at this; rw [hyv] at this; exact this)
          have hpl1 : pln m.ins.ws 1 = plainW y.xs := by show pln (m.ws.map WdM.wd) 1 = _; rw [pln_wd, hy]
          have HE : Hid (envM nm.data.toList m = (plainW y.xs == some nm.data.toList)) := hide (by
            unfold envM; rw [unhide HP0, hb0, hpl1]; rfl)
          have hml : 1 < m.ws.length := (List.getElem?_eq_some_iff.1 hy).1
          rw [hb0] at hIs
          obtain ⟨N, hN⟩ : ∃ N, N = m.ws.length := ⟨_, rfl⟩
          rw [← hN] at hIs r0 hml
          have i5 : (1 : Int) < (N : Int) := by omega
          have HH : Hid (∀ w2, Below W1.heap.size W1 w2 → w2.cell? ⟨wr.heap.size, 0, none⟩ = some (.slice (some ⟨g3, 0, none⟩) N cap3) ∧ w2.cell? ⟨g3, 1 * 2, none⟩ = some (.int .i64 (y.place : Int)) ∧ w2.cell? ⟨g3, 1 * 2 + 1, none⟩ = some (.slice ao n' cap')) := hide (fun w2 hb2 => ⟨cell_later hb2 r0, cell_later hb2 y0, cell_later hb2 y1⟩)
          cases hb3 : (plainW y.xs == some nm.data.toList) with
          | true =>
            have HR : Hid (s.ins.any (envM nm.data.toList) = true) := hide (any_yes (unhide HM) (by rw [unhide HE, hb3]))
            rw [hb3] at HI2
            clear hb0 hb3 hxe hy hyok hyv hpl1 hwv3 hN hys
            go_wp2_with (first
              | (go_at_call 70; refine hIs.mono ?_; clear hIs; rintro ev w2 ⟨rfl, hb2⟩; obtain ⟨k0, k1, k2⟩ := unhide HH w2 hb2)
              | (go_at_call 81; refine (unhide HI2 _ hb2).mono ?_; rintro ev w3 ⟨rfl, hb3⟩))
            go_ret
            exact ⟨ret_bool (unhide HR).symm, ((unhide HB1).trans (hb2.mono (unhide HB1).size)).trans (hb3.mono (Nat.le_trans (unhide HB1).size hb2.size))⟩
          | false =>
            have A2 : Hid (∀ (i : Nat) a, i < k + 1 → s.ins[i]? = some a → envM nm.data.toList a = false) := hide (fun i a hi ha => by
              by_cases hik : i = k
              · subst hik; rw [unhide HM] at ha; cases ha
                rw [unhide HE, hb3]
              · exact unhide A i a (by omega) ha)
            rw [hb3] at HI2
            clear hb0 hb3 hxe hy hyok hyv hpl1 hwv3 hN hys
            go_wp2_with (first
              | (go_at_call 70; refine hIs.mono ?_; clear hIs; rintro ev w2 ⟨rfl, hb2⟩; obtain ⟨k0, k1, k2⟩ := unhide HH w2 hb2)
              | (go_at_call 81; refine (unhide HI2 _ hb2).mono ?_; rintro ev w3 ⟨rfl, hb3⟩))
            go_roundw
            case rel =>
              first
                | exact ⟨k + 1, by omega, by go_num, ((unhide HB1).trans (hb2.mono (unhide HB1).size)).trans (hb3.mono (Nat.le_trans (unhide HB1).size hb2.size)), unhide A2⟩
                | ((repeat apply Exists.intro); exact ⟨⟨k + 1, by omega, by go_num, ((unhide HB1).trans (hb2.mono (unhide HB1).size)).trans (hb3.mono (Nat.le_trans (unhide HB1).size hb2.size)), unhide A2⟩, rfl⟩)
            case measure => simp [intOf]; omega
      · have HR : Hid (s.ins.any (envM nm.data.toList) = false) := hide (any_not (fun i a hi => unhide A i a (by
          have := (List.getElem?_eq_some_iff.1 hi).1
          rw [← unhide HN] at this; omega) hi))
        go_wp2_with fail
        go_ret
        exact ⟨ret_bool (unhide HR).symm, hb⟩
end Go.Proofs.YtkikhmleffcajaaGreatDoor

namespace Go.Proofs.YtkikhmleffcajaaGreatDoor
open Go.RowKit Go.Maps

def okP (set : List UInt8 → Bool) (p : Prt) : Bool := !p.isVar || set p.text.data.toList
def unsetP (set : List UInt8 → Bool) : List Prt → Option Int
  | [] => none
  | p :: r => if okP set p = true then unsetP set r else some p.place
theorem unsetP_app (set : List UInt8 → Bool) (a b : List Prt) : unsetP set (a ++ b) = (unsetP set a).or (unsetP set b) := by
  induction a with
  | nil => simp [unsetP]
  | cons p r ih =>
    simp only [List.cons_append, unsetP]
    split
    · exact ih
    · rfl
theorem unsetW_app (set : List UInt8 → Bool) (a b : List Atm) : unsetW set (a ++ b) = (unsetW set a).or (unsetW set b) := by
  induction a with
  | nil => simp [unsetW]
  | cons x r ih =>
    cases x with
    | inl c => simp only [List.cons_append, unsetW]; exact ih
    | inr pA =>
      obtain ⟨n, k⟩ := pA
      simp only [List.cons_append, unsetW]
      split
      · exact ih
      · rfl
theorem unset_parts (set : List UInt8 → Bool) (xs : List Atm) : unsetP set (parts xs) = (unsetW set xs).map fun k => (k : Int) := by
  induction xs using rev_ind with
  | h0 => rfl
  | h1 xs a ih =>
    rw [parts_snoc, unsetW_app]
    cases a with
    | inr pA =>
      obtain ⟨n, k⟩ := pA
      show unsetP set (parts xs ++ [⟨bt n, true, (k : Int)⟩]) = _
      rw [unsetP_app, ih]
      cases unsetW set xs with
      | some _ => rfl
      | none =>
        simp only [Option.none_or, unsetP, unsetW, okP, Bool.not_true, Bool.false_or, bt_list]
        split <;> rfl
    | inl c =>
      have e : (unsetW set xs).or (unsetW set [.inl c]) = unsetW set xs := by
        cases unsetW set xs <;> rfl
      rw [e, ← ih]
      show unsetP set (addT (parts xs) (bt [c])) = _
      rcases last_cases (parts xs) with hc | ⟨qs, q, he, hq⟩
      · rw [addT_new (by
          rintro q hq
          rcases hc with h | ⟨qs, p, h, hp⟩
          · rw [h] at hq; cases hq
          · rw [h] at hq; simp at hq; subst hq; exact hp), unsetP_app]
        cases unsetP set (parts xs) <;> simp [unsetP, okP]
      · rw [he, addT_on hq, unsetP_app, unsetP_app]
        congr 1
        simp [unsetP, okP, hq]
theorem unsetP_first {set : List UInt8 → Bool} {l : List Prt} {k : Nat} {p : Prt} (hk : l[k]? = some p) (hp : okP set p = false) (h : ∀ (i : Nat) q, i < k → l[i]? = some q → okP set q = true) : unsetP set l = some p.place := by
  induction l generalizing k with
  | nil => simp at hk
  | cons a r ih =>
    cases k with
    | zero => simp at hk; subst hk; simp [unsetP, hp]
    | succ k =>
      have ha := h 0 a (by omega) rfl
      simp only [unsetP, ha, if_true]
      exact ih (by simpa using hk) (fun i q hi hq => h (i + 1) q (by omega) (by simpa using hq))
theorem unsetP_none {set : List UInt8 → Bool} {l : List Prt} (h : ∀ (i : Nat) q, l[i]? = some q → okP set q = true) : unsetP set l = none := by
  induction l with
  | nil => rfl
  | cons a r ih =>
    simp only [unsetP, h 0 a rfl, if_true]
    exact ih (fun i q hq => h (i + 1) q (by simpa using hq))
/-- The stages are begun, and stand on stages ahead of them. -/
def Begun (ss : List StM) : Prop := ∀ (i : Nat) (s : StM), ss[i]? = some s → ∃ m : InM, s.ins[0]? = some m ∧ -1 ≤ m.stage ∧ m.stage < (i : Int)
theorem base_map {s : StM} {m : InM} (h : s.ins[0]? = some m) : baseG s.stg = m.stage := by
  unfold baseG StM.stg
  cases hi : s.ins with
  | nil => rw [hi] at h; cases h
  | cons a r => rw [hi] at h; simp at h; subst h; rfl
theorem isSetF_fuel {st : List Stg} {nm : List UInt8} : ∀ (f : Nat) (j : Int) (f' : Nat), (∀ (i : Nat) s, st[i]? = some s → -1 ≤ baseG s ∧ baseG s < i) → -1 ≤ j → j + 1 ≤ f → j + 1 ≤ f' → isSetF st f j nm = isSetF st f' j nm := by
  intro f
  induction f with
  | zero =>
    intro j f' hg h0 h1 h2
    have hj : j = -1 := by omega
    subst hj
    cases f' with
    | zero => rfl
    | succ f' => rfl
  | succ f ih =>
    intro j f' hg h0 h1 h2
    by_cases hj : j = -1
    · subst hj; cases f' <;> rfl
    · cases f' with
      | zero => omega
      | succ f' =>
        simp only [isSetF, if_neg hj]
        cases hs : st[j.toNat]? with
        | none => rfl
        | some s =>
          simp only
          have := hg j.toNat s hs
          rw [ih (baseG s) f' hg this.1 (by omega) (by omega)]
theorem begun_base {ss : List StM} (h : Begun ss) : ∀ (i : Nat) s, (ss.map StM.stg)[i]? = some s → -1 ≤ baseG s ∧ baseG s < i := fun i s hs => by
  rw [List.getElem?_map] at hs
  cases hx : ss[i]? with
  | none => rw [hx] at hs; cases hs
  | some x =>
    rw [hx] at hs; cases hs
    obtain ⟨m, hm, h1, h2⟩ := h i x hx
    rw [base_map hm]; exact ⟨h1, h2⟩
set_option maxHeartbeats 2000000 in
set_option maxRecDepth 10000 in
theorem isSet_any (B fb : Nat) (sv : Value) (ss : List StM) (nm : ByteArray) (w : World) (h : FileM w B fb sv ss) (hg : Begun ss) :
    Calls Tryz.prog 71 #[.pointer (some ⟨fb, 0, none⟩), .string nm] w fun ev w' => ev = .returned (.bool (isSetG (ss.map StM.stg) nm.data.toList)) ∧ Below w.heap.size w w' := by
  have c0 := h.c0
  have hsh := h.short
  obtain ⟨ao, cap, hv⟩ : ∃ ao cap, sv = .slice ao ss.length cap := by
    rcases h.row.2 with ⟨e, h0⟩ | ⟨g, cap, cur, e, _⟩
    · exact ⟨none, 0, by rw [e, h0]⟩
    · exact ⟨_, _, e⟩
  have hv' := hv
  obtain ⟨n, hn⟩ : ∃ n, n = ss.length := ⟨_, rfl⟩
  have HF := hide h
  have HG := hide hg
  have HN := hide hn
  have HV := hide hv'
  subst hv
  rw [← hn] at c0 hsh
  clear h hv' hn hg
  have e3 : IntKind.i64.wrap ((n : Int) - 1) = (n : Int) - 1 := by simp [IntKind.wrap, IntKind.bits, IntKind.signed]; omega
  go_enter Tryz.func71, Tryz.ntmps71
  go_wp2_with fail
  go_loopw [5] (fun i wr => ∃ j : Int, -1 ≤ j ∧ j < n ∧ i = .int .i64 j ∧ Below w.heap.size w wr ∧ isSetG (ss.map StM.stg) nm.data.toList = isSetF (ss.map StM.stg) n j nm.data.toList) (fun i _ => (intOf i + 1).toNat)
  case atStart => exact ⟨(n : Int) - 1, by omega, by omega, rfl, Below.refl _ _, by unfold isSetG; rw [List.length_map, ← unhide HN]⟩
  case round =>
    obtain ⟨j, hj0, hj1, rfl, hb, he⟩ := hrel
    have HE := hide he
    clear he
    by_cases hj : j = -1
    · subst hj
      have HR : Hid (isSetG (ss.map StM.stg) nm.data.toList = false) := hide (by rw [unhide HE]; cases n <;> rfl)
      go_wp2_with fail
      go_ret
      exact ⟨ret_bool (unhide HR).symm, hb⟩
    · obtain ⟨q, hq⟩ : ∃ q : Nat, j = q := ⟨j.toNat, by omega⟩
      subst hq
      have hlt : q < ss.length := by rw [← unhide HN]; omega
      obtain ⟨s, hs⟩ : ∃ s, ss[q]? = some s := ⟨_, List.getElem?_eq_getElem hlt⟩
      have hFr := (unhide HF).below hb
      have hok := hFr.all s (List.mem_of_getElem? hs)
      have hrow := hFr.row
      obtain ⟨g, cap', hsv, _, _⟩ := World.ownsRow.form hrow (by omega)
      injection hsv with e1 e2 e4
      subst e1 e4
      obtain ⟨q0, q1⟩ := st_at hrow q s hs
      obtain ⟨ao2, n2, cap2, hiv, -⟩ := st_form hok
      have c0' := hFr.c0
      rw [← unhide HN] at c0'
      obtain ⟨m, hm, hm1, hm2⟩ := unhide HG q s hs
      have hS := sets_any s nm B wr hok
      have hBa := fun w' (hb' : Below wr.heap.size wr w') => base_any s m B w' (hok.below hb') hm
      have HS1 : Hid (isSetF (ss.map StM.stg) n (q : Int) nm.data.toList = (setsG s.stg nm.data.toList || isSetF (ss.map StM.stg) n m.stage nm.data.toList)) := hide (by
        cases n with
        | zero => omega
        | succ n =>
          have h1 : isSetF (ss.map StM.stg) (n + 1) (q : Int) nm.data.toList = (setsG s.stg nm.data.toList || isSetF (ss.map StM.stg) n (baseG s.stg) nm.data.toList) := by
            simp only [isSetF, if_neg hj, Int.toNat_natCast, List.getElem?_map, hs, Option.map_some]
          rw [h1, base_map hm, isSetF_fuel n m.stage (n + 1) (begun_base (unhide HG)) hm1 (by omega) (by omega)])
      rw [hiv] at q1 hS hBa
      have g1 : ((q : Int) != -1) = true := by rw [bne_iff_ne]; omega
      have g2 : ¬ (q : Int) = -1 := by omega
      have i1 : (q : Int) < (n : Int) := by omega
      have i0 : (0 : Int) ≤ (q : Int) := by omega
      have HHC : Hid (∀ w', Below wr.heap.size wr w' → w'.cell? ⟨fb, 0, none⟩ = some (.slice (some ⟨g, 0, none⟩) n cap) ∧ w'.cell? ⟨g, q * 2, none⟩ = some (.string s.name) ∧ w'.cell? ⟨g, q * 2 + 1, none⟩ = some (.slice ao2 n2 cap2)) := hide (fun w' hb' => ⟨cell_later hb' c0', cell_later hb' q0, cell_later hb' q1⟩)
      clear hFr hok hrow hiv hm hs hj
      cases hb1 : setsG s.stg nm.data.toList with
      | true =>
        have HR : Hid (isSetG (ss.map StM.stg) nm.data.toList = true) := hide (by rw [unhide HE, unhide HS1, hb1]; rfl)
        rw [hb1] at hS
        clear hb1
        go_wp2_with (go_at_call 83; refine hS.mono ?_; clear hS; rintro ev w2 ⟨rfl, hb2⟩)
        go_ret
        exact ⟨ret_bool (unhide HR).symm, hb.trans (hb2.mono hb.size)⟩
      | false =>
        have HR : Hid (isSetG (ss.map StM.stg) nm.data.toList = isSetF (ss.map StM.stg) n m.stage nm.data.toList) := hide (by rw [unhide HE, unhide HS1, hb1]; rfl)
        rw [hb1] at hS
        clear hb1
        go_wp2_with (first
          | (go_at_call 83; refine hS.mono ?_; clear hS; rintro ev w2 ⟨rfl, hb2⟩; obtain ⟨k0, k1, k2⟩ := unhide HHC w2 hb2)
          | (go_at_call 82; refine (hBa _ hb2).mono ?_; clear hBa; rintro ev w3 ⟨rfl, hb3⟩))
        go_roundw
        case rel =>
          first
            | exact ⟨m.stage, hm1, by omega, rfl, (hb.trans (hb2.mono hb.size)).trans (hb3.mono (Nat.le_trans hb.size hb2.size)), unhide HR⟩
            | ((repeat apply Exists.intro); exact ⟨⟨m.stage, hm1, by omega, rfl, (hb.trans (hb2.mono hb.size)).trans (hb3.mono (Nat.le_trans hb.size hb2.size)), unhide HR⟩, rfl⟩)
        case measure => simp [intOf]; omega
end Go.Proofs.YtkikhmleffcajaaGreatDoor

namespace Go.Proofs.YtkikhmleffcajaaGreatDoor
open Go.RowKit Go.Maps

theorem unsetL_first {set : List UInt8 → Bool} {l : List Wd} {k p : Nat} {x : Wd} (hk : l[k]? = some x) (hp : unsetW set x.atoms = some p) (h : ∀ (i : Nat) y, i < k → l[i]? = some y → unsetW set y.atoms = none) : unsetL set l = some p := by
  induction l generalizing k with
  | nil => simp at hk
  | cons a r ih =>
    cases k with
    | zero => simp at hk; subst hk; simp [unsetL, hp]
    | succ k =>
      have ha := h 0 a (by omega) rfl
      simp only [unsetL, ha]
      exact ih (by simpa using hk) (fun i q hi hq => h (i + 1) q (by omega) (by simpa using hq))
theorem unsetL_none {set : List UInt8 → Bool} {l : List Wd} (h : ∀ (i : Nat) y, l[i]? = some y → unsetW set y.atoms = none) : unsetL set l = none := by
  induction l with
  | nil => rfl
  | cons a r ih =>
    simp only [unsetL, h 0 a rfl]
    exact ih (fun i q hq => h (i + 1) q (by simpa using hq))
theorem prC_get : ∀ (l : List Prt) (i : Nat) (m : Prt), l[i]? = some m → (prC l)[i * 3]? = some (.string m.text) ∧ (prC l)[i * 3 + 1]? = some (.bool m.isVar) ∧ (prC l)[i * 3 + 2]? = some (.int .i64 m.place) := by
  intro l
  induction l with
  | nil => intro i m h; simp at h
  | cons a r ih =>
    intro i m h
    cases i with
    | zero => simp at h; subst h; exact ⟨rfl, rfl, rfl⟩
    | succ i =>
      have := ih i m (by simpa using h)
      rw [show (i + 1) * 3 = i * 3 + 3 by omega]
      exact ⟨this.1, this.2.1, this.2.2⟩
/-- What looking at the variables comes to. -/
def ChkOut (w : World) (ev : Ending) (set : List UInt8 → Bool) (ws : List Wd) : Prop := match unsetL set ws with
  | some p => Wrg w ev 7 p
  | none => ev = .returned (.tuple #[])
/-- An instruction that is being read lies in memory. -/
structure InB (w : World) (B ib : Nat) (wv : Value) (ws : List WdM) (st a b : Int) (f g : Value) : Prop where
  cells : w.heap[ib]? = some (.cells #[wv, .int .i64 st, .int .i64 a, .int .i64 b, f, g] 99 (0, 0))
  wsm : WsM w B wv ws
  base : B ≤ ib
  short : ws.length ≤ 1500
  small : ∀ x ∈ ws, (parts x.xs).length ≤ 1500 ∧ ∀ t, plainW x.xs = some t → t.length ≤ 1500
theorem InB.lt {w : World} {B ib : Nat} {wv : Value} {ws : List WdM} {st a b : Int} {f g : Value} (h : InB w B ib wv ws st a b f g) : ib < w.heap.size := (Array.getElem?_eq_some_iff.1 h.cells).1
theorem InB.below {w w' : World} {B ib : Nat} {wv : Value} {ws : List WdM} {st a b : Int} {f g : Value} (h : InB w B ib wv ws st a b f g) (hb : Below w.heap.size w w') : InB w' B ib wv ws st a b f g :=
  ⟨(hb.block ib h.lt).trans h.cells, h.wsm.below hb, h.base, h.short, h.small⟩
theorem ws_form {w : World} {B : Nat} {wv : Value} {ws : List WdM} (h : WsM w B wv ws) : ∃ ao cap, wv = .slice ao ws.length cap := by
  rcases h.row.2 with ⟨e, h0⟩ | ⟨g, cap, cur, e, _⟩
  · exact ⟨none, 0, by rw [e, h0]⟩
  · exact ⟨_, _, e⟩
set_option maxHeartbeats 4000000 in
set_option maxRecDepth 10000 in
theorem check_any (B fb ib : Nat) (sv wv : Value) (ss : List StM) (ws : List WdM) (st a b : Int) (f g : Value) (w : World) (h : FileM w B fb sv ss) (hi : InB w B ib wv ws st a b f g)
    (hset : Begun ss ∨ ∀ x ∈ ws, ∀ p ∈ parts x.xs, p.isVar = false) :
    Calls Tryz.prog 54 #[.pointer (some ⟨fb, 0, none⟩), .pointer (some ⟨ib, 0, none⟩)] w fun ev w' => ChkOut w' ev (isSetG (ss.map StM.stg)) (ws.map WdM.wd) ∧ Below w.heap.size w w' := by
  have c0 : w.cell? ⟨ib, 0, none⟩ = some wv := cell_of_row _ _ 0 _ _ _ hi.cells
  obtain ⟨ao, cap, hv⟩ := ws_form hi.wsm
  have hsh := hi.short
  obtain ⟨n, hn⟩ : ∃ n, n = ws.length := ⟨_, rfl⟩
  obtain ⟨set, hse⟩ : ∃ set, set = isSetG (ss.map StM.stg) := ⟨_, rfl⟩
  have HSE := hide hse
  have HF := hide h
  have HI := hide hi
  have HN := hide hn
  have HV := hide hv
  have HSET := hide hset
  rw [← hse]
  rw [hv, ← hn] at c0
  rw [← hn] at hsh
  clear h hi hv hn hset hse
  go_enter Tryz.func54, Tryz.ntmps54
  go_wp2_with fail
  go_loopw [13] (fun i wr => ∃ k : Nat, k ≤ n ∧ i = .int .i64 k ∧ Below w.heap.size w wr ∧ (∀ (i : Nat) y, i < k → ws[i]? = some y → unsetW set y.xs = none)) (fun i _ => n - (intOf i).toNat)
  case atStart => exact ⟨0, Nat.zero_le _, rfl, Below.refl _ _, fun i s hi => by omega⟩
  case round =>
    obtain ⟨k, hk, rfl, hb, ha⟩ := hrel
    have A := hide ha
    clear ha
    by_cases hlt : k < n
    · have hlt' : k < ws.length := by rw [← unhide HN]; exact hlt
      obtain ⟨x, hx⟩ : ∃ x, ws[k]? = some x := ⟨_, List.getElem?_eq_getElem hlt'⟩
      have hWr := (unhide HI).wsm.below hb
      have hok := hWr.all x (List.mem_of_getElem? hx)
      obtain ⟨gw, capw, hwv, q0, q1, hgl⟩ := wd_at hWr k x hx
      have hwv2 := unhide HV
      rw [hwv, ← unhide HN] at hwv2
      injection hwv2 with e1 e2 e3
      subst e1 e3
      obtain ⟨aox, nx, capx, hxv⟩ := row_form hok
      have hnx : nx = (parts x.xs).length := by
        rcases hok.2 with ⟨e, h0⟩ | ⟨gg, cc, cur, e, _⟩
        · rw [e] at hxv; injection hxv with _ h1 _; rw [← h1, h0]
        · rw [e] at hxv; injection hxv with _ h1 _; exact h1.symm
      have hns := ((unhide HI).small x (List.mem_of_getElem? hx)).1
      rw [hxv] at q1
      have n0 := World.new_ne wr ⟨gw, k * 2, none⟩ q0
      have HX := hide hx
      have HOK := hide hok
      have HXV := hide hxv
      have HNX := hide hnx
      rw [← hnx] at hns
      have HB := hide hb
      obtain ⟨W1, hW1⟩ : ∃ W1, W1 = wr.alloc (.cells #[.int .i64 (x.place : Int), .slice aox nx capx] 133) := ⟨_, rfl⟩
      have HB1 : Hid (Below w.heap.size w W1) := hide (by rw [hW1]; exact hb.alloc hb.size _)
      have hc1 : W1.heap[wr.heap.size]? = some (.cells #[.int .i64 (x.place : Int), .slice aox nx capx] 133 (0, 0)) := by rw [hW1]; exact heap_alloc_new _ _
      have p1 : W1.cell? ⟨wr.heap.size, 1, none⟩ = some (.slice aox nx capx) := cell_of_row _ _ 1 _ _ _ hc1
      clear hx hok hxv hnx hWr hwv hb hc1
      go_upto_region 3 with fail
      rw [← hW1]
      clear hW1 q0 q1 n0
      go_wp2_with fail
      go_loopw [20] (fun i w2 => ∃ j : Nat, j ≤ nx ∧ i = .int .i64 j ∧ Below w.heap.size w w2 ∧ (∀ (i : Nat) q, i < j → (parts x.xs)[i]? = some q → okP set q = true)) (fun i _ => nx - (intOf i).toNat)
      case atStart => exact ⟨0, Nat.zero_le _, rfl, unhide HB1, fun i s hi => by omega⟩
      case round =>
        obtain ⟨j, hj, rfl, hb2, ha2⟩ := hrel
        have A2 := hide ha2
        clear ha2 p1
        by_cases hlt2 : j < nx
        · obtain ⟨p, hp⟩ : ∃ p, (parts x.xs)[j]? = some p := ⟨_, List.getElem?_eq_getElem (by rw [← unhide HNX]; exact hlt2)⟩
          have hok2 : x.Ok w B := (unhide HI).wsm.all x (List.mem_of_getElem? (unhide HX))
          have hrow3 := row_same hok2 (w' := wr) (fun i hi => hb2.block i (World.ownsRow.lt hok2 i hi).2)
          obtain ⟨gp, capp, hpv, _, hgpl⟩ := World.ownsRow.form hrow3 (by rw [← unhide HNX]; omega)
          have hpv2 := unhide HXV
          rw [hpv] at hpv2
          injection hpv2 with e1 e2 e3
          subst e1 e3
          rw [hpv] at hrow3
          obtain ⟨t0, t1, t2⟩ := prC_get _ j p hp
          have hjl : j < (parts x.xs).length := by rw [← unhide HNX]; exact hlt2
          have u0 : wr.cell? ⟨gp, j * 3, none⟩ = some (.string p.text) := by rw [World.ownsRow.cellAt hrow3 _ (by omega)]; exact t0
          have u1 : wr.cell? ⟨gp, j * 3 + 1, none⟩ = some (.bool p.isVar) := by rw [World.ownsRow.cellAt hrow3 _ (by omega)]; exact t1
          have u2 : wr.cell? ⟨gp, j * 3 + 2, none⟩ = some (.int .i64 p.place) := by rw [World.ownsRow.cellAt hrow3 _ (by omega)]; exact t2
          have n1 := World.new_ne wr ⟨gp, j * 3, none⟩ u0
          obtain ⟨W3, hW3⟩ : ∃ W3, W3 = wr.alloc (.cells #[.string p.text, .bool p.isVar, .int .i64 p.place] 161) := ⟨_, rfl⟩
          have hb3 : Below w.heap.size w W3 := by rw [hW3]; exact hb2.alloc hb2.size _
          have hc3 : W3.heap[wr.heap.size]? = some (.cells #[.string p.text, .bool p.isVar, .int .i64 p.place] 161 (0, 0)) := by rw [hW3]; exact heap_alloc_new _ _
          have v0 : W3.cell? ⟨wr.heap.size, 0, none⟩ = some (.string p.text) := cell_of_row _ _ 0 _ _ _ hc3
          have v1 : W3.cell? ⟨wr.heap.size, 1, none⟩ = some (.bool p.isVar) := cell_of_row _ _ 1 _ _ _ hc3
          have v2 : W3.cell? ⟨wr.heap.size, 2, none⟩ = some (.int .i64 p.place) := cell_of_row _ _ 2 _ _ _ hc3
          have HP := hide hp
          have HB3 := hide hb3
          have hFr := (unhide HF).below hb3
          have HFr := hide hFr
          clear hok2 hrow3 hpv hp t0 t1 t2 hc3 hb2 hb3 hjl hFr
          go_upto_region 6 with fail
          rw [← hW3]
          clear hW3 u0 u1 u2 n1
          cases hvar : p.isVar with
          | false =>
            have A3 : Hid (∀ (i : Nat) q, i < j + 1 → (parts x.xs)[i]? = some q → okP set q = true) := hide (fun i q hi hq => by
              by_cases hij : i = j
              · subst hij; rw [unhide HP] at hq; cases hq; simp [okP, hvar]
              · exact unhide A2 i q (by omega) hq)
            rw [hvar] at v1
            clear hvar
            go_wp2_with fail
            go_roundw
            case rel =>
              first
                | exact ⟨j + 1, by omega, by go_num, unhide HB3, unhide A3⟩
                | ((repeat apply Exists.intro); exact ⟨⟨j + 1, by omega, by go_num, unhide HB3, unhide A3⟩, rfl⟩)
            case measure => simp [intOf]; omega
          | true =>
            have hbeg : Begun ss := by
              rcases unhide HSET with h | h
              · exact h
              · have := h x (List.mem_of_getElem? (unhide HX)) p (List.mem_of_getElem? (unhide HP))
                rw [hvar] at this; cases this
            have hS := isSet_any B fb sv ss p.text W3 (unhide HFr) hbeg
            rw [← unhide HSE] at hS
            rw [hvar] at v1
            cases hst : set p.text.data.toList with
            | true =>
              have A3 : Hid (∀ (i : Nat) q, i < j + 1 → (parts x.xs)[i]? = some q → okP set q = true) := hide (fun i q hi hq => by
                by_cases hij : i = j
                · subst hij; rw [unhide HP] at hq; cases hq; simp [okP, hst]
                · exact unhide A2 i q (by omega) hq)
              rw [hst] at hS
              clear hvar hst
              go_wp2_with (go_at_call 71; refine hS.mono ?_; clear hS; rintro ev w5 ⟨rfl, hb5⟩)
              go_roundw
              case rel =>
                first
                  | exact ⟨j + 1, by omega, by go_num, (unhide HB3).trans (hb5.mono (unhide HB3).size), unhide A3⟩
                  | ((repeat apply Exists.intro); exact ⟨⟨j + 1, by omega, by go_num, (unhide HB3).trans (hb5.mono (unhide HB3).size), unhide A3⟩, rfl⟩)
              case measure => simp [intOf]; omega
            | false =>
              have hup : unsetP set (parts x.xs) = some p.place := unsetP_first (unhide HP) (by simp [okP, hst, hvar]) (unhide A2)
              rw [unset_parts] at hup
              obtain ⟨pp, hpp, hpl⟩ : ∃ pp, unsetW set x.xs = some pp ∧ (pp : Int) = p.place := by
                cases hu : unsetW set x.xs with
                | none => rw [hu] at hup; cases hup
                | some pp => rw [hu] at hup; injection hup with hup; exact ⟨pp, rfl, hup⟩
              have HU : Hid (unsetL set (ws.map WdM.wd) = some pp) := hide (unsetL_first (k := k) (x := x.wd) (by rw [List.getElem?_map, unhide HX]; rfl) hpp (fun i y hi hy => by
                rw [List.getElem?_map] at hy
                cases hw : ws[i]? with
                | none => rw [hw] at hy; cases hy
                | some z => rw [hw] at hy; cases hy; exact unhide A i z hi hw))
              rw [← hpl] at v2
              rw [hst] at hS
              have hFl := fun w' => fail_wrg 7 pp w'
              have HV2 : Hid (∀ w', Below W3.heap.size W3 w' → w'.cell? ⟨wr.heap.size, 2, none⟩ = some (.int .i64 (pp : Int))) := hide (fun w' hb' => cell_later hb' v2)
              clear hvar hst hup hpp hpl v2
              go_wp2_with (first
                | (go_at_call 71; refine hS.mono ?_; clear hS; rintro ev w5 ⟨rfl, hb5⟩; have v2 := unhide HV2 w5 hb5)
                | (go_at_call 36; refine (hFl _).mono ?_; clear hFl; rintro ev w8 ⟨bb, rfl, hc, hb8⟩))
              refine ⟨rfl, ?_, ((unhide HB3).trans (hb5.mono (unhide HB3).size)).trans (hb8.mono (Nat.le_trans (unhide HB3).size hb5.size))⟩
              unfold ChkOut
              rw [unhide HU]
              exact ⟨bb, rfl, hc⟩
        · have A3 : Hid (∀ (i : Nat) y, i < k + 1 → ws[i]? = some y → unsetW set y.xs = none) := hide (fun i y hi hy => by
            by_cases hik : i = k
            · subst hik; rw [unhide HX] at hy; cases hy
              have := unsetP_none (set := set) (l := parts x.xs) (fun i q hq => unhide A2 i q (by
                have := (List.getElem?_eq_some_iff.1 hq).1
                rw [← unhide HNX] at this; omega) hq)
              rw [unset_parts] at this
              cases hu : unsetW set x.xs with
              | none => rfl
              | some _ => rw [hu] at this; cases this
            · exact unhide A i y (by omega) hy)
          go_wp2_with fail
          go_roundw
          case rel =>
            first
              | exact ⟨k + 1, by omega, by go_num, hb2, unhide A3⟩
              | ((repeat apply Exists.intro); exact ⟨⟨k + 1, by omega, by go_num, hb2, unhide A3⟩, rfl⟩)
          case measure => simp [intOf]; omega
    · have HU : Hid (unsetL set (ws.map WdM.wd) = none) := hide (unsetL_none (fun i y hy => by
        rw [List.getElem?_map] at hy
        cases hw : ws[i]? with
        | none => rw [hw] at hy; cases hy
        | some z =>
          rw [hw] at hy; cases hy
          exact unhide A i z (by have := (List.getElem?_eq_some_iff.1 hw).1; rw [← unhide HN] at this; omega) hw))
      go_wp2_with fail
      go_end0
      refine ⟨?_, hb⟩
      unfold ChkOut
      rw [unhide HU]
end Go.Proofs.YtkikhmleffcajaaGreatDoor
