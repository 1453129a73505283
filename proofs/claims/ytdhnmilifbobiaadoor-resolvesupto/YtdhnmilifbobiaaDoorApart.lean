import Derived.Test.YtdhnmilifbobiaaDoorRef
namespace Go.Proofs.YtdhnmilifbobiaaDoor
open Go.RowKit

/-- An append to a row of the call's own: the new row is the old one, or a new block. -/
theorem wpList_append_apart {P : Program} (w : World) {ops : Array Oper} {rest : List Oper} {o : Oper} {a : Act} {Q : Exit → Act → World → Prop} (hgd : o.guard = none) (s x : Operand) (t : TypeId)
    (ho : o.op = .call { callee := .builtin .append, args := #[s, x], argTypes := #[t, t] })
    (base : Nat) (e : TypeId) (i : TypeInfo) (z : Value) (size bytes : Nat) (ht : P.underlying t = some (.slice e)) (hi : P.info? e = some i) (hz : i.zero = some z)
    (hsize : i.size = size) (hby : i.bytes = bytes) (hzs : z.cells.size = size) (hsz : 0 < size)
    (v : Value) (n : Nat) (xs : List Value) (hs : a.eval s = v) (hown : w.ownsRow base e size v n xs)
    (ad : Addr) (m c : Nat) (news : List Value) (hx : a.eval x = .slice (some ad) m c) (hl : news.length = m * size) (hnews : ∀ j u, news[j]? = some u → w.cell? (ad.add j) = some u) (h1 : ∀ u ∈ news, u.oneCell' = true)
    (hm : 0 < m) (h63 : n + m ≤ maxLen) (hbytes : (n + m) * bytes ≤ 140737488355328) (hbase : base ≤ w.heap.size)
    (h : ∀ v' w', w'.ownsRow base e size v' (n + m) (xs ++ news) → w.grownBy w' v.ownBlock → (v'.ownBlock = v.ownBlock ∨ ∀ k, v'.ownBlock = some k → w.heap.size ≤ k) → wpList P ops Q rest (a.put o.dst v') w') : wpList P ops Q (o :: rest) a w := by
  have fresh : ∀ v' w', w'.ownsRow w.heap.size e size v' (n + m) (xs ++ news) → w.grownBy w' none → wpList P ops Q rest (a.put o.dst v') w' := by
    intro v' w' r1 r2
    exact h v' w' (own_le r1 hbase) ⟨r2.os, r2.tape, r2.output, r2.size, fun k hk _ => r2.block k hk (by simp)⟩ (.inr fun k hk => (r1.lt k hk).1)
  rcases hown.2 with ⟨rfl, rfl⟩ | ⟨g, cap, cur, rfl, hbg, hg, hnc, hcm, hcs, htake⟩
  · exact wpList_append_grows w hgd s x t ho e i z size bytes ht hi hz hsize hby hzs hsz none 0 0 xs hs (fun _ => ⟨rfl, rfl⟩) hown.1 (fun b hb => by cases hb) ad m c news hx hl hnews h1 (by omega) h63 hbytes fresh
  · by_cases hroom : n + m ≤ cap
    · exact wpList_append_fits w hgd s x t ho base e i size ht hi hsize g n cap xs hs hown ad m c news hx hl hnews h1 hroom fun w' r1 r2 => h _ w' r1 r2 (.inl rfl)
    · exact wpList_append_grows w hgd s x t ho e i z size bytes ht hi hz hsize hby hzs hsz (some ⟨g, 0, none⟩) n cap xs hs (fun hb => by cases hb) hown.1 (fun b hb => by cases hb; exact hown.cells rfl) ad m c news hx hl hnews h1 (by omega) h63 hbytes fresh

theorem bgn_wt (s t : List UInt8) : wt (bgn s t) ≤ s.length + 1 := by
  unfold bgn; split
  · simp [wt]
  · exact wt_prt s
theorem split_kept {w w' : World} {o : Obj} {B gs caps : Nat} {aps : List ByteArray} {v : Value} (h : Own w B (.slice (some ⟨gs, 0, none⟩) aps.length caps) aps) (hg : (w.alloc o).grownBy w' v.ownBlock) (hne : v.ownBlock ≠ some gs) : Own w' B (.slice (some ⟨gs, 0, none⟩) aps.length caps) aps :=
  World.ownsRow.kept (World.ownsRow.alloc h o) hg (.inr (fun e => hne e.symm))
theorem apart_ne {w : World} {o : Obj} {v v' : Value} {gs : Nat} (h : v'.ownBlock = v.ownBlock ∨ ∀ k, v'.ownBlock = some k → (w.alloc o).heap.size ≤ k) (hne : v.ownBlock ≠ some gs) (hg : gs < w.heap.size) : v'.ownBlock ≠ some gs := by
  rcases h with h | h
  · rw [h]; exact hne
  · intro e
    have := h gs e
    simp at this
    omega

/-- What Resolve answers beside the path. -/
def errV (o : Option (List UInt8)) : Value := match o with
  | some _ => .nilIface
  | none => .iface 22 (.int .i64 1)
theorem ret_err {a b : ByteArray} {c d : Value} (h : a = b) (h2 : c = d) : Ending.returned (.tuple #[.string a, c]) = .returned (.tuple #[.string b, d]) := by rw [h, h2]
theorem has47 (l : List UInt8) : Lib.hasPrefix l [47] = decide (l.head? = some 47) := by
  cases l with
  | nil => rfl
  | cons c r =>
    by_cases h : c = 47
    · subst h; simp [Lib.hasPrefix, List.isPrefixOf]
    · simp [Lib.hasPrefix, List.isPrefixOf, h, Ne.symm h]

set_option maxHeartbeats 400000 in
theorem clone_any (s : ByteArray) (w : World) (hs : s.size ≤ 281474976710656) :
    Calls Tryd.prog 22 #[.string s] w fun e w' => e = .returned (.string s) ∧ Below w.heap.size w w' := by
  go_enter Tryd.func22, Tryd.ntmps22
  go_wp2_with (go_at_call 33; refine (Tryd.stringslite_Clone _ _ hs).mono ?_; rintro e w' ⟨rfl, hb⟩)
  go_ret
  exact ⟨rfl, hb⟩

theorem join_any (ao : Option Addr) (cap B : Nat) (ps : List ByteArray) (w : World) (hown : Own w B (.slice ao ps.length cap) ps) (hl : ps.length ≤ 4294967280) (hM : (Lib.join (txts ps) [47]).length ≤ 17179869184) :
    Calls Tryd.prog 21 #[.slice ao ps.length cap, .string ⟨#[47]⟩] w fun e w' => e = .returned (.string (bs (Lib.join (txts ps) [47]))) ∧ Below w.heap.size w w' := by
  by_cases ho : ps = []
  · subst ho
    refine (Tryd.strings_Join_none ao cap ⟨#[47]⟩ w).mono ?_
    rintro e w' ⟨rfl, rfl⟩
    exact ⟨rfl, Below.refl _ _⟩
  · obtain ⟨g, cap', hv⟩ := own_form hown ho
    cases hv
    refine (Tryd.strings_Join g 0 cap ps ⟨#[47]⟩ w (fun j x hx => by rw [Nat.zero_add]; exact own_cell hown hx) (own_lt hown) (by omega) (own_cap hown) (by show (Lib.join (txts ps) [47]).length ≤ _; omega)).mono ?_
    rintro e w' ⟨rfl, hb⟩
    exact ⟨rfl, hb⟩

set_option maxHeartbeats 400000 in
theorem paths_bad (s t : ByteArray) (m : Int) (w : World) (hm : w.cell? ⟨1, 0, none⟩ = some (.int .i64 m)) (h : isP s.data.toList = false) :
    Calls Tryd.prog 13 #[.string s, .string t] w fun e w' => e = .returned (.tuple #[.string (bs ((resP s.data.toList t.data.toList).getD [])), errV (resP s.data.toList t.data.toList)]) ∧ Below w.heap.size w w' := by
  have HR : Hid (resP s.data.toList t.data.toList = none) := hide (by simp [resP, h])
  go_enter Tryd.func13, Tryd.ntmps13
  go_wp2_with (go_at_call 16; refine (is_any _ m _ hm).mono ?_; rintro e w1 ⟨rfl, hb1⟩)
  go_ret2
  exact ⟨ret_err (by rw [unhide HR]; rfl) (by rw [unhide HR]; rfl), hb1⟩
end Go.Proofs.YtdhnmilifbobiaaDoor
