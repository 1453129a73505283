import Derived.Test.YtpiponkhhimaoaaGreatDoorStoG
import Derived.Test.YtpiponkhhimaoaaGreatDoorJAs
import Derived.Test.YtpiponkhhimaoaaGreatDoorTelE
namespace Go.Proofs.YtpiponkhhimaoaaGreatDoor
open Go.RowKit Go.Maps

/-- A store of the program's, from its face on. -/
structure XSt (w : World) (lb sb mb : Nat) (v : Value) (L : List Blb) (q : Int) (A : List Ac) : Prop where
  face : w.heap[lb]? = some (.cells #[.pointer (some ⟨sb, 0, none⟩)] 87 (0, 0))
  st : PSt w sb mb v L q A
theorem XSt.apart {w : World} {lb sb mb : Nat} {v : Value} {L : List Blb} {q : Int} {A : List Ac} (h : XSt w lb sb mb v L q A) : ¬ Own sb mb v lb := by
  rintro (rfl | rfl | e)
  · have := h.st.cells; rw [h.face] at this; cases this
  · obtain ⟨es, clock, hb, _⟩ := h.st.map; rw [h.face] at hb; cases hb
  · obtain ⟨cur, hc⟩ := own_type h.st.row e; rw [h.face] at hc; cases hc
theorem XSt.below {w w' : World} {lb sb mb : Nat} {v : Value} {L : List Blb} {q : Int} {A : List Ac} (h : XSt w lb sb mb v L q A) (hb : Below w.heap.size w w') : XSt w' lb sb mb v L q A :=
  ⟨(hb.block lb (Array.getElem?_eq_some_iff.1 h.face).1).trans h.face, h.st.below hb⟩
theorem XSt.goes {w w' : World} {lb sb mb : Nat} {v v' : Value} {L L' : List Blb} {q : Int} {A A' : List Ac} (h : XSt w lb sb mb v L q A) (hP : PSt w' sb mb v' L' q A') (hG : Goes w sb mb v w' v') : XSt w' lb sb mb v' L' q A' :=
  ⟨(hG.turn.block lb (Array.getElem?_eq_some_iff.1 h.face).1 h.apart).trans h.face, hP⟩
/-- What the calls need of the variables. -/
structure Vars (w : World) : Prop where
  ks : KsLie w
  err : w.cell? ⟨0, 0, none⟩ = some (.iface 226 (.agg #[.pointer (some ⟨3, 70, none⟩)]))
theorem Vars.turn {w w' : World} {S : Nat → Prop} (h : Vars w) (ht : Turn S w w') (hs : ∀ k, S k → 2 ≤ k) : Vars w' :=
  ⟨fun i hi => ht.cell (h.ks i hi) (fun hc => by have := hs _ hc; simp at this), ht.cell h.err (fun hc => by have := hs _ hc; simp at this)⟩
theorem Vars.below {w w' : World} (h : Vars w) (hb : Below w.heap.size w w') : Vars w' := ⟨h.ks.below hb, cell_later hb h.err⟩
/-- What a call does, from the face on. -/
def PutX (w : World) (lb sb mb : Nat) (v : Value) (L' : List Blb) (q : Int) (A' : List Ac) (w' : World) : Prop := ∃ v', XSt w' lb sb mb v' L' q A' ∧ Goes w sb mb v w' v'
theorem PutX.of {w w' : World} {lb sb mb : Nat} {v : Value} {L L' : List Blb} {q : Int} {A A' : List Ac} (h : XSt w lb sb mb v L q A) (hp : PutP w sb mb v L' q A' w') : PutX w lb sb mb v L' q A' w' := by
  obtain ⟨v', hP, hG⟩ := hp
  exact ⟨v', h.goes hP hG, hG⟩
theorem PutX.later {w w' w'' : World} {lb sb mb : Nat} {v : Value} {L' : List Blb} {q : Int} {A' : List Ac} (h : PutX w lb sb mb v L' q A' w') (hb : Below w'.heap.size w' w'') : PutX w lb sb mb v L' q A' w'' := by
  obtain ⟨v', hX, hG⟩ := h
  exact ⟨v', hX.below hb, hG.trans (Goes.of_below hb)⟩
theorem PutX.vars {w w' : World} {lb sb mb : Nat} {v : Value} {L' : List Blb} {q : Int} {A' : List Ac} (h : PutX w lb sb mb v L' q A' w') (hV : Vars w) (hf : ∀ k, Own sb mb v k → 2 ≤ k) : Vars w' := by
  obtain ⟨v', _, hG⟩ := h
  exact hV.turn hG.turn hf
/-- What 'Put' answers: its text, whether there is room, files and acts behind it. -/
def PutAns (L : List Blb) (q : Int) (A : List Ac) (d x : ByteArray) (r : Bool) (L' : List Blb) (A' : List Ac) : Prop :=
  ((getV L (dig d)).2 = true ∧ x = dig d ∧ r = true ∧ L' = L ∧ A' = A) ∨
  ((getV L (dig d)).2 = false ∧ ((szL (delB L (blobN (dig d)).data.toList) + d.size : Nat) : Int) > q ∧ x = emp ∧ r = false ∧ L' = L ∧ A' = A) ∨
  ((getV L (dig d)).2 = false ∧ ((szL (delB L (blobN (dig d)).data.toList) + d.size : Nat) : Int) ≤ q ∧ x = dig d ∧ r = true ∧ L' = keepR L (blobN (dig d)) d ∧ A' = A ++ keepB (blobN (dig d)) d)
theorem PutAns.there {L : List Blb} {q : Int} {A : List Ac} {d : ByteArray} (h : (getV L (dig d)).2 = true) : PutAns L q A d (dig d) true L A := .inl ⟨h, rfl, rfl, rfl, rfl⟩
theorem PutAns.full {L : List Blb} {q : Int} {A : List Ac} {d : ByteArray} (h : (getV L (dig d)).2 = false) (hq : ((szL (delB L (blobN (dig d)).data.toList) + d.size : Nat) : Int) > q) : PutAns L q A d emp false L A := .inr (.inl ⟨h, hq, rfl, rfl, rfl, rfl⟩)
theorem PutAns.kept {L : List Blb} {q : Int} {A : List Ac} {d : ByteArray} (h : (getV L (dig d)).2 = false) (hq : ((szL (delB L (blobN (dig d)).data.toList) + d.size : Nat) : Int) ≤ q) : PutAns L q A d (dig d) true (keepR L (blobN (dig d)) d) (A ++ keepB (blobN (dig d)) d) := .inr (.inr ⟨h, hq, rfl, rfl, rfl, rfl⟩)
theorem PutAns.el {L : List Blb} {q : Int} {A : List Ac} {d : ByteArray} {motive : ∀ x r L' A', PutAns L q A d x r L' A' → Prop} (there : ∀ h, motive _ _ _ _ (.there h)) (full : ∀ h hq, motive _ _ _ _ (.full h hq)) (kept : ∀ h hq, motive _ _ _ _ (.kept h hq))
    {x : ByteArray} {r : Bool} {L' : List Blb} {A' : List Ac} (t : PutAns L q A d x r L' A') : motive x r L' A' t := by
  rcases t with ⟨h, e1, e2, e3, e4⟩ | ⟨h, hq, e1, e2, e3, e4⟩ | ⟨h, hq, e1, e2, e3, e4⟩
  · cases e1; cases e2; cases e3; cases e4; exact there h
  · cases e1; cases e2; cases e3; cases e4; exact full h hq
  · cases e1; cases e2; cases e3; cases e4; exact kept h hq
theorem PutAns.one {L : List Blb} {q : Int} {A : List Ac} {d x y : ByteArray} {a b : Bool} {L1 L2 : List Blb} {A1 A2 : List Ac} (h : PutAns L q A d x a L1 A1) (k : PutAns L q A d y b L2 A2) : x = y ∧ a = b ∧ L1 = L2 ∧ A1 = A2 := by
  cases h using PutAns.el <;> cases k using PutAns.el <;> first | exact ⟨rfl, rfl, rfl, rfl⟩ | (exfalso; simp_all; done) | (exfalso; omega)
set_option maxRecDepth 100000 in
theorem lput_act (lb sb mb : Nat) (v : Value) (L : List Blb) (q : Int) (A : List Ac) (d : ByteArray) (w : World) (h : XSt w lb sb mb v L q A) (hA : A.length ≤ 1099511627) (hL : L.length ≤ 1099511627) (hd : d.size ≤ 1073741824) (hds : ∀ b ∈ L, b.data.size ≤ 1073741824) (hz : szL L ≤ 1099511627776) (hV : Vars w) (hf : ∀ k, Own sb mb v k → 2 ≤ k) :
    Calls Tryz.prog 11 #[.pointer (some ⟨lb, 0, none⟩), .string d] w fun ev w' => ∃ x r L' A', Hid (PutAns L q A d x r L' A') ∧ ev = .returned (.tuple #[.string x, .int .i64 (if r then 0 else 12)]) ∧ PutX w lb sb mb v L' q A' w' := by
  have hP := put_act sb mb v L q A d w h.st hA hL hd hds hz hV.ks
  have c0 : w.cell? ⟨lb, 0, none⟩ = some (.pointer (some ⟨sb, 0, none⟩)) := cell_of_row _ _ 0 _ _ _ h.face
  have hF : Calls Tryz.prog 34 #[.pointer (some ⟨lb, 0, none⟩), .string d] w fun ev w' => ∃ x er r L' A', Hid (PutAns L q A d x r L' A') ∧ er = (if r then Value.nilIface else .iface 36 (.int .i64 12)) ∧ ev = .returned (.tuple #[.string x, er]) ∧ PutX w lb sb mb v L' q A' w' := by
    have HX := hide h
    clear h
    go_enter Tryz.func34, Tryz.ntmps34
    go_wp2_with (go_at_call 58; refine hP.mono ?_; clear hP; rintro ev w1 (⟨hv, rfl, hk⟩ | ⟨hv, hq, rfl, hk⟩ | ⟨hv, hq, rfl, hk⟩))
    · go_ret2
      exact ⟨_, _, true, _, _, hide (.there hv), rfl, rfl, PutX.of (unhide HX) hk⟩
    · go_ret2
      exact ⟨_, _, false, _, _, hide (.full hv hq), rfl, rfl, PutX.of (unhide HX) hk⟩
    · go_ret2
      rw [keep_blob, keepA_blob] at hk
      exact ⟨_, _, true, _, _, hide (.kept hv hq), rfl, rfl, PutX.of (unhide HX) hk⟩
  have HV := hide hV
  have HF := hide hf
  clear hP h hV hf
  go_enter Tryz.func11, Tryz.ntmps11
  go_upto_region 2 with (go_at_call 34; refine hF.mono ?_; clear hF; rintro ev w1 ⟨x, er, r, L', A', HA', rfl, rfl, hk⟩)
  have hV1 := hk.vars (unhide HV) (unhide HF)
  cases r with
  | true =>
    go_wp2_with (go_at_call 27; refine (tell_nil _).mono ?_; rintro ev w2 ⟨rfl, hb2⟩)
    go_ret2
    exact ⟨_, true, _, _, HA', rfl, hk.later hb2⟩
  | false =>
    go_wp2_with (go_at_call 27; refine (tell_errno 12 _ hV1.err).mono ?_; rintro ev w2 ⟨rfl, hb2⟩)
    go_ret2
    exact ⟨_, false, _, _, HA', rfl, hk.later hb2⟩
end Go.Proofs.YtpiponkhhimaoaaGreatDoor
