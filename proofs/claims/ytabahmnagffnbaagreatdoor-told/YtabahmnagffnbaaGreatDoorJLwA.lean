import Derived.Test.YtabahmnagffnbaaGreatDoorJRstH
import Derived.Laws.StructEq
import Derived.Test.YtabahmnagffnbaaGreatDoorJTreeP
import Derived.Test.YtabahmnagffnbaaGreatDoorJAs
import Derived.Test.YtabahmnagffnbaaGreatDoorJPlain
import Derived.Test.YtabahmnagffnbaaGreatDoorJDigH
import Derived.Test.YtabahmnagffnbaaGreatDoorJRefC
namespace Go.Proofs.YtabahmnagffnbaaGreatDoor
open Go.RowKit Go.Maps Go.Sort Go.Shelf

theorem struct138 : Tryz.prog.underlying 68 = some (.struct (Tryz.prog.fieldsOf 68)) := by kernel_rfl
theorem struct140 : Tryz.prog.underlying 93 = some (.struct (Tryz.prog.fieldsOf 93)) := by kernel_rfl
theorem stood138 : Tryz.prog.stoodInHeld 68 = false := by kernel_rfl
theorem stood140 : Tryz.prog.stoodInHeld 93 = false := by kernel_rfl
theorem fields138 : (Tryz.prog.fieldsOf 68).toList.map (fun f => (f.name, f.type, f.offset)) = [("What", 3, 0), ("Name", 9, 1), ("To", 9, 2), ("Data", 9, 3)] := by kernel_rfl
theorem fields140 : (Tryz.prog.fieldsOf 93).toList.map (fun f => (f.name, f.type, f.offset)) = [("Name", 9, 0), ("Data", 9, 1)] := by kernel_rfl
theorem fourF {l : List Field} {a b c d : String × TypeId × Nat} (h : l.map (fun f => (f.name, f.type, f.offset)) = [a, b, c, d]) : ∃ f1 f2 f3 f4 : Field, l = [f1, f2, f3, f4] ∧ (f1.name = a.1 ∧ f1.type = a.2.1 ∧ f1.offset = a.2.2) ∧ (f2.name = b.1 ∧ f2.type = b.2.1 ∧ f2.offset = b.2.2) ∧ (f3.name = c.1 ∧ f3.type = c.2.1 ∧ f3.offset = c.2.2) ∧ (f4.name = d.1 ∧ f4.type = d.2.1 ∧ f4.offset = d.2.2) := by
  match l, h with
  | [f1, f2, f3, f4], h =>
    simp only [List.map_cons, List.map_nil, List.cons.injEq, and_true] at h
    obtain ⟨rfl, rfl, rfl, rfl⟩ := h
    exact ⟨f1, f2, f3, f4, rfl, ⟨rfl, rfl, rfl⟩, ⟨rfl, rfl, rfl⟩, ⟨rfl, rfl, rfl⟩, ⟨rfl, rfl, rfl⟩⟩
theorem twoF {l : List Field} {a b : String × TypeId × Nat} (h : l.map (fun f => (f.name, f.type, f.offset)) = [a, b]) : ∃ f1 f2 : Field, l = [f1, f2] ∧ (f1.name = a.1 ∧ f1.type = a.2.1 ∧ f1.offset = a.2.2) ∧ (f2.name = b.1 ∧ f2.type = b.2.1 ∧ f2.offset = b.2.2) := by
  match l, h with
  | [f1, f2], h =>
    simp only [List.map_cons, List.map_nil, List.cons.injEq, and_true] at h
    obtain ⟨rfl, rfl⟩ := h
    exact ⟨f1, f2, rfl, ⟨rfl, rfl, rfl⟩, ⟨rfl, rfl, rfl⟩⟩
set_option maxRecDepth 100000 in
theorem neq138 (a : Ac) (w : World) : (binOp .neq 68 (.agg #[.int .i64 a.what, .string a.name, .string a.dest, .string a.data]) (.agg #[.int .i64 a.what, .string a.name, .string a.dest, .string a.data])).run Tryz.prog w = .ok (.bool false) w := by
  rw [run_neq_struct, run_equalIn_struct w 9999 68 _ _ struct138 stood138]
  obtain ⟨f1, f2, f3, f4, he, ⟨n1, t1, o1⟩, ⟨n2, t2, o2⟩, ⟨n3, t3, o3⟩, ⟨n4, t4, o4⟩⟩ := fourF fields138
  rw [he]
  have u9 := Tryz.underlying9
  have u3 := Tryz.underlying3
  simp only [Op.eqFields, n1, n2, n3, n4, t1, t2, t3, t4, o1, o2, o3, o4]
  simp [go_sem, part, u9, u3, Result.andThen]
set_option maxRecDepth 100000 in
theorem neq140 (a : Blb) (w : World) : (binOp .neq 93 (.agg #[.string a.name, .string a.data]) (.agg #[.string a.name, .string a.data])).run Tryz.prog w = .ok (.bool false) w := by
  rw [run_neq_struct, run_equalIn_struct w 9999 93 _ _ struct140 stood140]
  obtain ⟨f1, f2, he, ⟨n1, t1, o1⟩, ⟨n2, t2, o2⟩⟩ := twoF fields140
  rw [he]
  have u9 := Tryz.underlying9
  simp only [Op.eqFields, n1, n2, t1, t2, o1, o2]
  simp [go_sem, part, u9, Result.andThen]
/-- What 'plain.New' answers. -/
def NewX (w : World) (F : List Blb) (q : Int) (v : Value) (e n : Int) (w' : World) : Prop :=
  (∃ i : Nat, FirstBadF F i ∧ v = .pointer none ∧ e = 11 ∧ n = i) ∨
  (FirstBadF F (-1) ∧ (q < 0 ∨ 16777216 < q) ∧ v = .pointer none ∧ e = 10 ∧ n = -1) ∨
  (FirstBadF F (-1) ∧ (0 ≤ q ∧ q ≤ 16777216) ∧ e = 0 ∧ n = -1 ∧ ∃ (lb sb mb : Nat) (va : Value), v = .pointer (some ⟨lb, 0, none⟩) ∧ (∀ k, OwnS sb mb va k ∨ k = lb → w.heap.size ≤ k) ∧ XSt w' lb sb mb va (remL (putAll F) (putAll F)) q (remA (putAll F)))
set_option maxRecDepth 100000 in
theorem pnew_act (ao : Option Addr) (cap n : Nat) (F : List Blb) (q : Int) (w : World) (hr : BRow w ao F) (HN : Hid (n = F.length)) (hn : n ≤ 16777216) (hs : ∀ b ∈ F, b.name.size ≤ 16777216 ∧ b.data.size ≤ 16777216) (hV : Vars w) :
    Calls Tryz.prog 10 #[.slice ao n cap, .int .i64 q] w fun ev w' => ∃ v e k, ev = .returned (.tuple #[v, .int .i64 e, .int .i64 k]) ∧ NewX w F q v e k w' ∧ Below w.heap.size w w' := by
  have hP := new_act ao cap n F q w hr HN hn hs
  have hF : Calls Tryz.prog 17 #[.slice ao n cap, .int .i64 q] w fun ev w' => ∃ v er, ev = .returned (.tuple #[v, er]) ∧ (
      (∃ i p : Nat, FirstBadF F i ∧ v = .pointer none ∧ er = .iface 56 (.pointer (some ⟨p, 0, none⟩)) ∧ w'.cell? ⟨p, 0, none⟩ = some (.int .i64 11) ∧ w'.cell? ⟨p, 1, none⟩ = some (.int .i64 (i : Int))) ∨
      (FirstBadF F (-1) ∧ (q < 0 ∨ 16777216 < q) ∧ v = .pointer none ∧ er = .iface 29 (.int .i64 10)) ∨
      (FirstBadF F (-1) ∧ (0 ≤ q ∧ q ≤ 16777216) ∧ er = .nilIface ∧ ∃ (lb sb mb : Nat) (va : Value), v = .pointer (some ⟨lb, 0, none⟩) ∧ (∀ k, OwnS sb mb va k ∨ k = lb → w.heap.size ≤ k) ∧ XSt w' lb sb mb va (remL (putAll F) (putAll F)) q (remA (putAll F)))) ∧ Below w.heap.size w w' := by
    go_enter Tryz.func17, Tryz.ntmps17
    go_upto_region 2 with (go_at_call 24; refine hP.mono ?_; clear hP; rintro ev w1 ⟨v, er, rfl, hN, hb1⟩)
    rcases hN with ⟨i, p, hB, rfl, rfl, c0, c1⟩ | ⟨hB, hq, rfl, rfl⟩ | ⟨hB, hq, rfl, sb, mb, va, rfl, hfar, hPs⟩
    · go_wp2_with fail
      go_ret2
      exact ⟨_, _, rfl, .inl ⟨i, p, hB, rfl, rfl, c0, c1⟩, hb1⟩
    · go_wp2_with fail
      go_ret2
      exact ⟨_, _, rfl, .inr (.inl ⟨hB, hq, rfl, rfl⟩), hb1⟩
    · go_wp2_with fail
      go_ret2
      refine ⟨_, _, rfl, .inr (.inr ⟨hB, hq, rfl, w1.heap.size, sb, mb, va, rfl, ?_, ?_⟩), hb1.alloc hb1.size _⟩
      · rintro k (hk | rfl)
        · exact hfar k hk
        · exact hb1.size
      · exact ⟨heap_alloc_new _ _, hPs.below ((Below.refl _ _).alloc (Nat.le_refl _) _)⟩
  have HV := hide hV
  clear hP hV
  go_enter Tryz.func10, Tryz.ntmps10
  go_upto_region 2 with (go_at_call 17; refine hF.mono ?_; clear hF; rintro ev w1 ⟨v, er, rfl, hN, hb1⟩)
  have hV1 := (unhide HV).below hb1
  rcases hN with ⟨i, p, hB, rfl, rfl, c0, c1⟩ | ⟨hB, hq, rfl, rfl⟩ | ⟨hB, hq, rfl, lb, sb, mb, va, rfl, hfar, hX⟩
  · go_wp2_with (go_at_call 15; refine (tell_at p 11 i w1 hV1.err c0 c1).mono ?_; rintro ev w2 ⟨rfl, hb2⟩)
    refine bodyPost_ret (results_tmp3 rfl _ _ _) rfl ?_
    exact ⟨_, _, _, rfl, .inl ⟨i, hB, rfl, rfl, rfl⟩, hb1.trans (hb2.mono hb1.size)⟩
  · go_wp2_with (go_at_call 15; refine (tell_errno 10 w1 hV1.err).mono ?_; rintro ev w2 ⟨rfl, hb2⟩)
    refine bodyPost_ret (results_tmp3 rfl _ _ _) rfl ?_
    exact ⟨_, _, _, rfl, .inr (.inl ⟨hB, hq, rfl, rfl, rfl⟩), hb1.trans (hb2.mono hb1.size)⟩
  · go_wp2_with (go_at_call 15; refine (tell_nil w1).mono ?_; rintro ev w2 ⟨rfl, hb2⟩)
    refine bodyPost_ret (results_tmp3 rfl _ _ _) rfl ?_
    exact ⟨_, _, _, rfl, .inr (.inr ⟨hB, hq, rfl, rfl, lb, sb, mb, va, rfl, hfar, hX.below hb2⟩), hb1.trans (hb2.mono hb1.size)⟩
end Go.Proofs.YtabahmnagffnbaaGreatDoor

namespace Go.Proofs.YtabahmnagffnbaaGreatDoor
open Go.RowKit Go.Maps Go.Sort Go.Shelf

theorem Vars.far {w w' : World} {B : Nat} (h : Vars w) (hb : Below B w w') (hB : 2 ≤ B) : Vars w' :=
  ⟨h.ks.turn hb (by omega), (hb.cell (p := ⟨0, 0, none⟩) (by show 0 < B; omega)).trans h.err⟩
set_option maxRecDepth 100000 in
theorem lacts_any (lb sb mb : Nat) (v : Value) (L : List Blb) (q : Int) (A : List Ac) (w : World) (h : XSt w lb sb mb v L q A) (hA : A.length ≤ 1099511627) (hs : ∀ a ∈ A, a.name.size ≤ 1073741824 ∧ a.dest.size ≤ 1073741824 ∧ a.data.size ≤ 1073741824) :
    Calls Tryz.prog 12 #[.pointer (some ⟨lb, 0, none⟩)] w fun ev w' => ev = .returned v ∧ Below (w.setCell ⟨sb, 2, none⟩ (.slice none 0 0)).heap.size (w.setCell ⟨sb, 2, none⟩ (.slice none 0 0)) w' := by
  have hA1 := acts_any sb mb v L q A w h.st hA hs
  have c0 : w.cell? ⟨lb, 0, none⟩ = some (.pointer (some ⟨sb, 0, none⟩)) := cell_of_row _ _ 0 _ _ _ h.face
  clear h hs
  go_enter Tryz.func12, Tryz.ntmps12
  go_wp2_with (go_at_call 19; refine hA1.mono ?_; clear hA1; rintro ev w1 ⟨rfl, hb1⟩)
  go_ret
  exact ⟨rfl, hb1⟩
end Go.Proofs.YtabahmnagffnbaaGreatDoor

namespace Go.Proofs.YtabahmnagffnbaaGreatDoor
open Go.RowKit Go.Maps Go.Sort Go.Shelf

end Go.Proofs.YtabahmnagffnbaaGreatDoor

namespace Go.Proofs.YtabahmnagffnbaaGreatDoor
open Go.RowKit Go.Maps Go.Sort Go.Shelf

/-- A step. -/
structure Stp where
  kind : Int
  which : Int
  name : ByteArray
  data : ByteArray
  ctx : Option Addr
  cn : Nat
  cc : Nat
  quota : Int
def Stp.arr (s : Stp) : Array Value := #[.int .i64 s.kind, .int .i64 s.which, .string s.name, .string s.data, .slice s.ctx s.cn s.cc, .int .i64 s.quota]
end Go.Proofs.YtabahmnagffnbaaGreatDoor

namespace Go.Proofs.YtabahmnagffnbaaGreatDoor
open Go.RowKit Go.Maps Go.Sort Go.Shelf

set_option maxRecDepth 100000 in
theorem pget_act (lb sb mb : Nat) (v : Value) (L : List Blb) (q : Int) (A : List Ac) (s : ByteArray) (w : World) (h : XSt w lb sb mb v L q A) (hs : s.size ≤ 1048576) (hds : ∀ b ∈ L, b.data.size ≤ 1073741824) (hV : Vars w) :
    Calls Tryz.prog 11 #[.pointer (some ⟨lb, 0, none⟩), .string s] w fun ev w' => ev = .returned (.tuple #[.string (getV L s).1, .int .i64 (if (getV L s).2 then 0 else 13)]) ∧ Below w.heap.size w w' := by
  have hG := get_act sb mb v L q A s w h.st hs hds hV.ks
  have c0 : w.cell? ⟨lb, 0, none⟩ = some (.pointer (some ⟨sb, 0, none⟩)) := cell_of_row _ _ 0 _ _ _ h.face
  have HV := hide hV
  have hD := get_data L s
  clear h hV
  cases hv : (getV L s).2 with
  | true =>
    have hF : Calls Tryz.prog 18 #[.pointer (some ⟨lb, 0, none⟩), .string s] w fun ev w' => ev = .returned (.tuple #[.string (getV L s).1, .nilIface]) ∧ Below w.heap.size w w' := by
      have hG2 := hG.mono (R' := fun ev w' => ev = .returned (.tuple #[.string (getV L s).1, .nilIface]) ∧ Below w.heap.size w w') (fun ev w' h => by
        rcases h with ⟨_, e1, e2⟩ | ⟨e0, _⟩
        · exact ⟨e1, e2⟩
        · rw [hv] at e0; cases e0)
      clear hG
      go_enter Tryz.func18, Tryz.ntmps18
      go_wp2_with (go_at_call 25; refine hG2.mono ?_; clear hG2; rintro ev w1 ⟨rfl, hb1⟩)
      go_ret2
      exact ⟨rfl, hb1⟩
    clear hG
    go_enter Tryz.func11, Tryz.ntmps11
    go_wp2_with (first | (go_at_call 18; refine hF.mono ?_; clear hF; rintro ev w1 ⟨rfl, hb1⟩) | (go_at_call 15; refine (tell_nil _).mono ?_; rintro ev w2 ⟨rfl, hb2⟩))
    go_ret2
    exact ⟨rfl, hb1.trans (hb2.mono hb1.size)⟩
  | false =>
    rw [hD hv]
    have hF : Calls Tryz.prog 18 #[.pointer (some ⟨lb, 0, none⟩), .string s] w fun ev w' => ev = .returned (.tuple #[.string emp, .iface 29 (.int .i64 13)]) ∧ Below w.heap.size w w' := by
      have hG2 := hG.mono (R' := fun ev w' => ev = .returned (.tuple #[.string emp, .iface 29 (.int .i64 13)]) ∧ Below w.heap.size w w') (fun ev w' h => by
        rcases h with ⟨e0, _⟩ | ⟨_, e1, e2⟩
        · rw [hv] at e0; cases e0
        · exact ⟨e1, e2⟩)
      clear hG
      go_enter Tryz.func18, Tryz.ntmps18
      go_wp2_with (go_at_call 25; refine hG2.mono ?_; clear hG2; rintro ev w1 ⟨rfl, hb1⟩)
      go_ret2
      exact ⟨rfl, hb1⟩
    clear hG
    go_enter Tryz.func11, Tryz.ntmps11
    go_wp2_with (first | (go_at_call 18; refine hF.mono ?_; clear hF; rintro ev w1 ⟨rfl, hb1⟩) | (go_at_call 15; refine (tell_errno 13 _ ((unhide HV).below hb1).err).mono ?_; rintro ev w2 ⟨rfl, hb2⟩))
    go_ret2
    exact ⟨rfl, hb1.trans (hb2.mono hb1.size)⟩
/-- What 'Drop' answers. -/
def DropAns (L : List Blb) (A : List Ac) (s : ByteArray) (r : Bool) (L' : List Blb) (A' : List Ac) : Prop :=
  (getB L s.data.toList = .none ∧ r = false ∧ L' = L ∧ A' = A) ∨ ((getB L s.data.toList).isSome = true ∧ r = true ∧ L' = delB L s.data.toList ∧ A' = A ++ [⟨5, s, nul, nul⟩])
theorem DropAns.none {L : List Blb} {A : List Ac} {s : ByteArray} (h : getB L s.data.toList = Option.none) : DropAns L A s false L A := .inl ⟨h, rfl, rfl, rfl⟩
theorem DropAns.some {L : List Blb} {A : List Ac} {s : ByteArray} (h : (getB L s.data.toList).isSome = true) : DropAns L A s true (delB L s.data.toList) (A ++ [⟨5, s, nul, nul⟩]) := .inr ⟨h, rfl, rfl, rfl⟩
theorem DropAns.el {L : List Blb} {A : List Ac} {s : ByteArray} {motive : ∀ r L' A', DropAns L A s r L' A' → Prop} (none : ∀ h, motive _ _ _ (.none h)) (some : ∀ h, motive _ _ _ (.some h)) {r : Bool} {L' : List Blb} {A' : List Ac} (t : DropAns L A s r L' A') : motive r L' A' t := by
  rcases t with ⟨h, e1, e2, e3⟩ | ⟨h, e1, e2, e3⟩
  · cases e1; cases e2; cases e3; exact none h
  · cases e1; cases e2; cases e3; exact some h
theorem DropAns.one {L : List Blb} {A : List Ac} {s : ByteArray} {a b : Bool} {L1 L2 : List Blb} {A1 A2 : List Ac} (h : DropAns L A s a L1 A1) (k : DropAns L A s b L2 A2) : a = b ∧ L1 = L2 ∧ A1 = A2 := by
  cases h using DropAns.el with
  | none h =>
    cases k using DropAns.el with
    | none k => exact ⟨rfl, rfl, rfl⟩
    | some k => rw [h] at k; cases k
  | some h =>
    cases k using DropAns.el with
    | none k => rw [k] at h; cases h
    | some k => exact ⟨rfl, rfl, rfl⟩
end Go.Proofs.YtabahmnagffnbaaGreatDoor

namespace Go.Proofs.YtabahmnagffnbaaGreatDoor
open Go.RowKit Go.Maps Go.Sort Go.Shelf

theorem hexd_ok : ∀ n : Fin 16, hexB (hexd n.val) = true := by decide +kernel
theorem sha_hex (l : List UInt8) : (sha l).all hexB = true := by
  rw [List.all_eq_true]
  intro c hc
  rw [sha, hexs] at hc
  obtain ⟨x, hx, hc⟩ := List.mem_flatten.1 hc
  obtain ⟨y, _, rfl⟩ := List.mem_map.1 hx
  rw [hexW] at hc
  obtain ⟨i, _, rfl⟩ := List.mem_map.1 hc
  exact hexd_ok ⟨_, Nat.mod_lt _ (by decide)⟩
theorem isN_blob (d : ByteArray) : isN (Blb.nm ⟨blobN (dig d), d⟩) = true := by
  have e : Blb.nm ⟨blobN (dig d), d⟩ = 98 :: 47 :: sha d.data.toList := by
    show (blobN (dig d)).data.toList = _
    rw [blobN_bytes]
    simp [dig]
  rw [e]
  simp [isN, isDig, sha_len]
  simpa using sha_hex d.data.toList
/-- Files as a store of the law has them. -/
structure Good (L : List Blb) (n : Nat) : Prop where
  rise : Rise L
  names : ∀ b ∈ L, isN b.nm = true
  data : ∀ b ∈ L, b.data.size ≤ 16777216
  sz : szL L ≤ 16777216
  len : L.length ≤ n
theorem Good.size {L : List Blb} {n : Nat} (h : Good L n) {b : Blb} (hb : b ∈ L) : b.name.size = 66 := (Lib.size_eq _).trans (isN_size (h.names b hb))
theorem Good.mono {L : List Blb} {n m : Nat} (h : Good L n) (hm : n ≤ m) : Good L m := ⟨h.rise, h.names, h.data, h.sz, Nat.le_trans h.len hm⟩
theorem szL_put {L : List Blb} (hL : Rise L) (b : Blb) : szL (putB L b) = szL (delB L b.nm) + b.data.size := by
  rw [putB, del_split hL, szL_append, szL_append, szL_cons]; omega
theorem szL_del_le (L : List Blb) (x : List UInt8) : szL (delB L x) ≤ szL L := by
  have := szL_le_del L x L.length
  rwa [List.take_length] at this
theorem del_put_same {L : List Blb} (hL : Rise L) (b : Blb) : delB (putB L b) b.nm = delB L b.nm := by
  rw [del_split hL, delB, putB, List.filter_append, List.filter_cons_of_neg (by simp), List.filter_filter, List.filter_filter]
  congr 1
  · refine List.filter_congr fun z _ => ?_
    cases h : Op.bytesLess z.nm b.nm
    · simp
    · simpa using fl_ne h
  · refine List.filter_congr fun z _ => ?_
    cases h : Op.bytesLess b.nm z.nm
    · simp
    · simpa using (fl_ne h).symm
theorem keepR_eq {L : List Blb} (hL : Rise L) (s d : ByteArray) : keepR L s d = putB (delB L (asideR s).data.toList) ⟨s, d⟩ := by
  rw [keepR, show (asideR s).data.toList = Blb.nm ⟨asideR s, d⟩ from rfl, del_put_same hL]
theorem del_comm (L : List Blb) (x y : List UInt8) : delB (delB L x) y = delB (delB L y) x := by
  unfold delB
  rw [List.filter_filter, List.filter_filter]
  exact List.filter_congr fun z _ => Bool.and_comm _ _
theorem Good.kept {L : List Blb} {n : Nat} (h : Good L n) {q : Int} {d : ByteArray} (hd : d.size ≤ 16777216) (hq : ((szL (delB L (blobN (dig d)).data.toList) + d.size : Nat) : Int) ≤ q) (hq2 : q ≤ 16777216) : Good (keepR L (blobN (dig d)) d) (n + 1) := by
  have e := keepR_eq h.rise (blobN (dig d)) d
  have hr := rise_del h.rise (asideR (blobN (dig d))).data.toList
  have hm : ∀ b ∈ keepR L (blobN (dig d)) d, b = ⟨blobN (dig d), d⟩ ∨ b ∈ L := fun b hb => by
    rw [e] at hb
    rcases put_mem hb with hb | hb
    · exact .inl hb
    · exact .inr (List.mem_filter.1 hb).1
  refine ⟨?_, ?_, ?_, ?_, ?_⟩
  · rw [e]; exact rise_put hr _
  · intro b hb
    rcases hm b hb with rfl | hb
    · exact isN_blob d
    · exact h.names b hb
  · intro b hb
    rcases hm b hb with rfl | hb
    · exact hd
    · exact h.data b hb
  · rw [e, szL_put hr, del_comm]
    have := szL_del_le (delB L (Blb.nm ⟨blobN (dig d), d⟩)) (asideR (blobN (dig d))).data.toList
    have h2 : szL (delB L (Blb.nm ⟨blobN (dig d), d⟩)) = szL (delB L (blobN (dig d)).data.toList) := rfl
    show szL (delB (delB L (Blb.nm ⟨blobN (dig d), d⟩)) (asideR (blobN (dig d))).data.toList) + d.size ≤ _
    omega
  · rw [e, put_len _ hr]
    have h1 := del_len (delB L (asideR (blobN (dig d))).data.toList) (Blb.nm ⟨blobN (dig d), d⟩)
    have h2 := del_len L (asideR (blobN (dig d))).data.toList
    have h3 := h.len
    omega
theorem Good.dropped {L : List Blb} {n : Nat} (h : Good L n) (x : List UInt8) : Good (delB L x) n :=
  ⟨rise_del h.rise x, fun b hb => h.names b (List.mem_filter.1 hb).1, fun b hb => h.data b (List.mem_filter.1 hb).1, Nat.le_trans (szL_del_le L x) h.sz, Nat.le_trans (del_len L x) h.len⟩
theorem rise_rem {L M : List Blb} (h : Rise L) : Rise (remL L M) := by
  have hh : ∀ (M L : List Blb), Rise L → Rise (M.foldl (fun X b => if isT b then delB X b.nm else X) L) := fun M => by
    induction M with
    | nil => exact fun L h => h
    | cons b r ih =>
      intro L h
      refine ih _ ?_
      dsimp only
      split
      · exact rise_del h _
      · exact h
  exact hh M L h
theorem szL_rem (L M : List Blb) : szL (remL L M) ≤ szL L := by
  have hh : ∀ (M L : List Blb), szL (M.foldl (fun X b => if isT b then delB X b.nm else X) L) ≤ szL L := fun M => by
    induction M with
    | nil => exact fun L => Nat.le_refl _
    | cons b r ih =>
      intro L
      refine Nat.le_trans (ih _) ?_
      dsimp only
      split
      · exact szL_del_le L _
      · exact Nat.le_refl _
  exact hh M L
theorem szL_all (F : List Blb) : szL (putAll F) ≤ szL F := by
  have hh : ∀ (F L : List Blb), Rise L → szL (F.foldl putB L) ≤ szL F + szL L := fun F => by
    induction F with
    | nil => exact fun L _ => by simp [szL]
    | cons b r ih =>
      intro L hL
      have h1 := ih (putB L b) (rise_put hL b)
      have h2 := szL_put hL b
      have h3 := szL_del_le L b.nm
      rw [List.foldl_cons, szL_cons]
      omega
  have := hh F [] List.Pairwise.nil
  simpa [putAll, szL] using this
theorem Good.opened {F : List Blb} {n : Nat} (hF : FirstBadF F (-1)) (hd : ∀ b ∈ F, b.data.size ≤ 16777216) (hz : szL F ≤ 16777216) (hn : F.length ≤ n) : Good (remL (putAll F) (putAll F)) n :=
  ⟨rise_rem (rise_all F), fun b hb => all_isN hF b (mem_all (remL_mem hb)), fun b hb => hd b (mem_all (remL_mem hb)), Nat.le_trans (szL_rem _ _) (Nat.le_trans (szL_all F) hz), Nat.le_trans (remL_len _ _) (Nat.le_trans (len_all F) hn)⟩
/-- Acts as the law has them. -/
def GoodA (A : List Ac) (n : Nat) : Prop := A.length ≤ n ∧ ∀ a ∈ A, a.name.size ≤ 16777216 ∧ a.dest.size ≤ 16777216 ∧ a.data.size ≤ 16777216
theorem goodA_nil (n : Nat) : GoodA [] n := ⟨Nat.zero_le _, fun a ha => by simp at ha⟩
theorem goodA_rem {F : List Blb} {n : Nat} (hF : FirstBadF F (-1)) (hn : F.length ≤ n) : GoodA (remA (putAll F)) n := by
  refine ⟨Nat.le_trans (remA_len _) (Nat.le_trans (len_all F) hn), fun a ha => ?_⟩
  rw [remA] at ha
  obtain ⟨b, hb, rfl⟩ := List.mem_map.1 ha
  have := isN_size (all_isN hF b (mem_all (List.mem_filter.1 hb).1))
  have h66 : b.name.size = 66 := (Lib.size_eq _).trans this
  exact ⟨by show b.name.size ≤ _; omega, Nat.zero_le _, Nat.zero_le _⟩
theorem goodA_keep {d : ByteArray} (hd : d.size ≤ 16777216) : GoodA (keepB (blobN (dig d)) d) 4 := by
  have h66 : (blobN (dig d)).size = 66 := by rw [blobN, ByteArray.size_append, dig_size]; rfl
  have h2 : (asideR (blobN (dig d))).size ≤ 16777216 := by
    simp only [asideR, ByteArray.size_append, ByteArray.size_extract]
    have : (⟨#[116]⟩ : ByteArray).size = 1 := rfl
    omega
  have h0 : (nul : ByteArray).size = 0 := rfl
  refine ⟨Nat.le_refl _, fun a ha => ?_⟩
  simp only [keepB, List.mem_cons, List.not_mem_nil, or_false] at ha
  rcases ha with rfl | rfl | rfl | rfl
  · exact ⟨h2, by show (nul : ByteArray).size ≤ _; omega, hd⟩
  · exact ⟨h2, by show (nul : ByteArray).size ≤ _; omega, by show (nul : ByteArray).size ≤ _; omega⟩
  · exact ⟨h2, by show (blobN (dig d)).size ≤ _; omega, by show (nul : ByteArray).size ≤ _; omega⟩
  · exact ⟨by show (nul : ByteArray).size ≤ _; omega, by show (nul : ByteArray).size ≤ _; omega, by show (nul : ByteArray).size ≤ _; omega⟩
theorem goodA_drop {s : ByteArray} (hs : s.size ≤ 1048576) : GoodA [⟨5, s, nul, nul⟩] 1 := by
  refine ⟨Nat.le_refl _, fun a ha => ?_⟩
  simp only [List.mem_cons, List.not_mem_nil, or_false] at ha
  subst ha
  exact ⟨by show s.size ≤ _; omega, Nat.zero_le _, Nat.zero_le _⟩
end Go.Proofs.YtabahmnagffnbaaGreatDoor

namespace Go.Proofs.YtabahmnagffnbaaGreatDoor
open Go.RowKit

def octL (n : Nat) : List UInt8 := if n < 8 then [UInt8.ofNat (48 + n)] else octL (n / 8) ++ [UInt8.ofNat (48 + n % 8)]
def decL (n : Nat) : List UInt8 := if n < 10 then [UInt8.ofNat (48 + n)] else decL (n / 10) ++ [UInt8.ofNat (48 + n % 10)]
end Go.Proofs.YtabahmnagffnbaaGreatDoor

namespace Go.Proofs.YtabahmnagffnbaaGreatDoor
open Go.RowKit

theorem dig8 (r : Nat) (h : r < 8) : ((⟨#[48, 49, 50, 51, 52, 53, 54, 55]⟩ : ByteArray).extract r (r + 1)).data.toList = [UInt8.ofNat (48 + r)] := by
  rw [Lib.extract_data]
  match r, h with
  | 0, _ => rfl
  | 1, _ => rfl
  | 2, _ => rfl
  | 3, _ => rfl
  | 4, _ => rfl
  | 5, _ => rfl
  | 6, _ => rfl
  | 7, _ => rfl
theorem octL_len (n : Nat) : (octL n).length ≤ n + 1 := by
  induction n using Nat.strongRecOn with
  | ind n ih =>
    rw [octL]
    split
    · simp
    · rename_i h
      have := ih (n / 8) (by omega)
      simp only [List.length_append, List.length_cons, List.length_nil]
      omega
end Go.Proofs.YtabahmnagffnbaaGreatDoor

namespace Go.Proofs.YtabahmnagffnbaaGreatDoor
open Go.RowKit

def fileT (e : Ent) : List UInt8 := [102, 105, 108, 101, 32] ++ octL e.mode.toNat ++ [32] ++ decL e.data.size ++ [10] ++ e.data.data.toList
def linkT (e : Ent) : List UInt8 := [108, 105, 110, 107, 32] ++ e.data.data.toList
def dirT (e : Ent) : List UInt8 := [100, 105, 114, 32] ++ octL e.mode.toNat ++ [10]
def kidT (s : Ent → List UInt8) (k : Ent) : List UInt8 := nameOf k.path.data.toList ++ [32] ++ s k ++ [10]
/-- The sum of an entry, so deep. -/
def sumF (es : List Ent) : Nat → Ent → List UInt8
  | 0, _ => []
  | f + 1, e => sha (if e.kind = 2 then fileT e else if e.kind = 3 then linkT e else dirT e ++ ((kidsE es e.path.data.toList).map (kidT (sumF es f))).flatten)
end Go.Proofs.YtabahmnagffnbaaGreatDoor

namespace Go.Proofs.YtabahmnagffnbaaGreatDoor
open Go.RowKit

theorem dig10 (r : Nat) (h : r < 10) : ((⟨#[48, 49, 50, 51, 52, 53, 54, 55, 56, 57]⟩ : ByteArray).extract r (r + 1)).data.toList = [UInt8.ofNat (48 + r)] := by
  rw [Lib.extract_data]
  match r, h with
  | 0, _ => rfl
  | 1, _ => rfl
  | 2, _ => rfl
  | 3, _ => rfl
  | 4, _ => rfl
  | 5, _ => rfl
  | 6, _ => rfl
  | 7, _ => rfl
  | 8, _ => rfl
  | 9, _ => rfl

theorem decL_len (n : Nat) : (decL n).length ≤ n + 1 := by
  induction n using Nat.strongRecOn with
  | ind n ih =>
    rw [decL]
    split
    · simp
    · rename_i h
      have := ih (n / 10) (by omega)
      simp only [List.length_append, List.length_cons, List.length_nil]
      omega
end Go.Proofs.YtabahmnagffnbaaGreatDoor
