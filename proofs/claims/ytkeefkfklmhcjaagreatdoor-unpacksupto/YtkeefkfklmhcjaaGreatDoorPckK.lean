import Derived.Test.YtkeefkfklmhcjaaGreatDoorPckJ
namespace Go.Proofs.YtkeefkfklmhcjaaGreatDoor
open Go.RowKit

theorem noughts_any (n : Nat) (w : World) (hn : n ≤ 1048576) :
    Calls Tryz.prog 134 #[.int .i64 n] w fun ev w' => ev = .returned (.string (bt (List.replicate n 0))) ∧ Below w.heap.size w w' := by
  have h := repeat_any 0 n w hn
  go_enter Tryz.func134, Tryz.ntmps134
  go_wp2_with (go_at_call 142; refine h.mono ?_; clear h; rintro ev w1 ⟨rfl, hb1⟩)
  go_ret
  exact ⟨rfl, hb1⟩
theorem ending_any (w : World) :
    Calls Tryz.prog 93 #[] w fun ev w' => ev = .returned (.string (bt (List.replicate 1024 0))) ∧ Below w.heap.size w w' := by
  obtain ⟨T, hT⟩ : ∃ T, T = bt (List.replicate 1024 0) := ⟨_, rfl⟩
  have h : Calls Tryz.prog 134 #[.int .i64 1024] w fun ev w' => ev = .returned (.string T) ∧ Below w.heap.size w w' := by rw [hT]; exact noughts_any 1024 w (by omega)
  rw [← hT]
  clear hT
  go_enter Tryz.func93, Tryz.ntmps93
  go_wp2_with (go_at_call 134; refine h.mono ?_; clear h; rintro ev w1 ⟨rfl, hb1⟩)
  go_ret
  exact ⟨rfl, hb1⟩
theorem filledP_any (s : ByteArray) (w : World) (hs : s.size ≤ 1048576) :
    Calls Tryz.prog 133 #[.string s] w fun ev w' => ev = .returned (.string (bt (s.data.toList ++ List.replicate (padL s.size) 0))) ∧ Below w.heap.size w w' := by
  obtain ⟨r, hr⟩ : ∃ r, r = s.size % 512 := ⟨_, rfl⟩
  have e1 : (s.size : Int).tmod 512 = (r : Int) := by rw [hr]; exact Int.ofNat_tmod s.size 512
  have r5 : r < 512 := by rw [hr]; exact Nat.mod_lt _ (by omega)
  have HR := hide hr
  clear hr
  by_cases h0 : r = 0
  · subst h0
    have hp : padL s.size = 0 := by rw [padL, ← unhide HR]
    have HF : Hid (bt (s.data.toList ++ List.replicate (padL s.size) 0) = s) := hide (by rw [hp]; simp [bt_of])
    clear hp r5
    go_enter Tryz.func133, Tryz.ntmps133
    go_wp2
    go_ret
    exact ⟨by rw [unhide HF]; rfl, Below.refl _ _⟩
  · have hp : padL s.size = 512 - r := by rw [padL, ← unhide HR]; exact Nat.mod_eq_of_lt (by omega)
    obtain ⟨p, hpp⟩ : ∃ p, p = 512 - r := ⟨_, rfl⟩
    have e2 : (512 : Int) - (r : Int) = (p : Int) := by omega
    have p5 : p ≤ 512 := by omega
    have h := noughts_any p w (by omega)
    have HF : Hid (bt (s.data.toList ++ List.replicate (padL s.size) 0) = s ++ bt (List.replicate p 0)) := hide (by rw [hp, ← hpp, ← bt_app, bt_of])
    clear hp hpp
    have hz : (bt (List.replicate p 0)).size ≤ 512 := by rw [bt_size, List.length_replicate]; exact p5
    go_enter Tryz.func133, Tryz.ntmps133
    go_wp2_with (go_at_call 134; refine h.mono ?_; clear h; rintro ev w1 ⟨rfl, hb1⟩)
    go_ret
    exact ⟨by rw [unhide HF]; rfl, hb1⟩
theorem blk_back {w : World} {b : Nat} {xs : List UInt8} (h : Blk w b xs) : (convert 46 9 (.slice (some ⟨b, 0, none⟩) 512 512)).run Tryz.prog w = .ok (.string (bt xs)) w := by
  have := run_convert_bytes_back (P := Tryz.prog) w 46 9 5 ⟨b, 0, none⟩ 512 xs Tryz.underlying46 Tryz.underlying5 Tryz.underlying9 (fun j hj => by
    rw [Addr.add_lit, Nat.zero_add]; exact blk_cell h hj)
  rw [h.2] at this
  exact this
theorem entry_block {c : Ent} (h : c.kind ≠ 2) : entryL c = blockL c := by
  have e : dataL c = [] := by rw [dataL, if_neg h]
  rw [entryL, e, blockL]; simp [padL]
theorem entry_file {c : Ent} (h : c.kind = 2) : entryL c = blockL c ++ (c.data.data.toList ++ List.replicate (padL c.data.size) 0) := by
  have e : dataL c = c.data.data.toList := by rw [dataL, if_pos h]
  rw [entryL, e, blockL, Lib.size_eq]; simp [List.append_assoc]
set_option maxHeartbeats 1000000 in
set_option maxRecDepth 10000 in
theorem written_any (c : Ent) (m : Nat) (w : World) (HPk : Hid (PkC c m)) (hP : Pk w) (hkd : c.kind = 1 ∨ c.kind = 2 ∨ c.kind = 3 ∨ c.kind = 4 ∨ c.kind = 5) (hp : (nameL c).length ≤ 100 ∨ ∃ i, slashFrom (nameL c) ((nameL c).length - 101) = some i) :
    Calls Tryz.prog 92 #[.agg #[.string c.path, .int .i64 c.kind, .int .i64 c.mode, .string c.data]] w fun ev w' => ev = .returned (.string (bt (entryL c))) ∧ Below w.heap.size w w' := by
  obtain ⟨W0, hW0⟩ : ∃ W0, W0 = w.alloc (.cells #[.string c.path, .int .i64 c.kind, .int .i64 c.mode, .string c.data] 39) := ⟨_, rfl⟩
  have hB0 : Below w.heap.size w W0 := by rw [hW0]; exact (Below.refl _ _).alloc (Nat.le_refl _) _
  have hs0 : W0.heap.size = w.heap.size + 1 := by rw [hW0, World.size_alloc]
  have q0 : W0.cell? ⟨w.heap.size, 0, none⟩ = some (.string c.path) := by rw [hW0]; exact cell_of_row _ _ 0 _ _ _ (heap_alloc_new _ _)
  have q1 : W0.cell? ⟨w.heap.size, 1, none⟩ = some (.int .i64 c.kind) := by rw [hW0]; exact cell_of_row _ _ 1 _ _ _ (heap_alloc_new _ _)
  have q2 : W0.cell? ⟨w.heap.size, 2, none⟩ = some (.int .i64 c.mode) := by rw [hW0]; exact cell_of_row _ _ 2 _ _ _ (heap_alloc_new _ _)
  have q3 : W0.cell? ⟨w.heap.size, 3, none⟩ = some (.string c.data) := by rw [hW0]; exact cell_of_row _ _ 3 _ _ _ (heap_alloc_new _ _)
  have hN := newBlock_any c m W0 HPk (hP.below hB0) hkd hp
  have hl := block_len (unhide HPk)
  obtain ⟨U, hU⟩ : ∃ U, U = (Lib.byteCells (blockL c)).toArray := ⟨_, rfl⟩
  rw [← hU] at hN
  have hsz : U.size = 512 := by rw [hU]; simp [Lib.byteCells, hl]
  have hin : (Tryz.prog.info? 174).map (·.size) = some U.size := by rw [hsz]; exact info173
  have hon : U.all (·.oneCell') = true := by rw [hU]; exact cells_one _
  have HL := hide hl
  have HU := hide hU
  clear hl hU hP hkd hp
  go_enter Tryz.func92, Tryz.ntmps92
  go_upto_region 1 with fail
  rw [← hW0]
  clear hW0
  go_upto_region 2 with (first
    | (go_at_call 132; refine hN.mono ?_; clear hN; rintro ev w1 ⟨rfl, hb1⟩; have q1 := cell_later hb1 q1; have q3 := cell_later hb1 q3; have hz : Tryz.zeroCells174.size = 512 := (by rw [zero173]; simp [Lib.byteCells]); have hR := heap_alloc_new w1 (.cells Tryz.zeroCells174 174); have hth := there_all hR U.size (by rw [hsz, hz]; exact Nat.le_refl _))
    | (refine wpList_store_mid rfl 174 (.tmp 3) (.tmp 5) rfl w1.heap.size 0 U rfl rfl hth hin hon ?_))
  obtain ⟨V, hV⟩ : ∃ V, V = (w1.alloc (.cells Tryz.zeroCells174 174)).setCells w1.heap.size 0 U.toList := ⟨_, rfl⟩
  have hb2 : Below w1.heap.size w1 V := by rw [hV]; exact below_setCells (Nat.le_refl _) _ _ _ ((Below.refl _ _).alloc (Nat.le_refl _) _)
  have hK : Blk V w1.heap.size (blockL c) := ⟨by rw [← unhide HU, hV]; exact heap_setCells_all hR (by rw [hsz, hz]), unhide HL⟩
  have hback := blk_back hK
  have q1 := cell_later hb2 q1
  have q3 := cell_later hb2 q3
  have hB1 := hB0.trans (hb1.mono hB0.size)
  have hB2 := hB1.trans (hb2.mono hB1.size)
  rw [← hV]
  clear hV hth hR hz hin hon hsz HU
  by_cases hk : c.kind = 2
  · have HF := hide (entry_file hk)
    rw [hk] at q1
    have hfl := filledP_any c.data V (by have := (unhide HPk).data; omega)
    go_upto_region 4 with fail
    have hK' : Blk V.drew w1.heap.size (blockL c) := hK
    have hback' := blk_back hK'
    have hd := (unhide HPk).data
    have hpd : padL c.data.size < 512 := Nat.mod_lt _ (by omega)
    obtain ⟨T, hT⟩ : ∃ T, T = bt (c.data.data.toList ++ List.replicate (padL c.data.size) 0) := ⟨_, rfl⟩
    obtain ⟨S, hS⟩ : ∃ S, S = bt (blockL c) := ⟨_, rfl⟩
    have hTz : T.size ≤ 1049088 := by rw [hT, bt_size, List.length_append, List.length_replicate, ← Lib.size_eq]; omega
    have hSz : S.size = 512 := by rw [hS, bt_size]; exact unhide HL
    have n1 : ¬ 9223372036854775807 < S.size + T.size := by omega
    have HE : Hid (S ++ T = bt (entryL c)) := hide (by rw [hS, hT, bt_app, ← unhide HF])
    rw [← hT] at hfl
    rw [← hS] at hback'
    have HT := hide hT
    have HS := hide hS
    clear hfl hback hT hS hTz hSz hpd
    go_region_with (go_at_call 133; refine (filledP_any c.data _ hd).mono ?_; rw [← unhide HT]; rintro ev w2 ⟨rfl, hb3⟩; have hback2 := blk_back (hK.below (chain0 hb3)); rw [← unhide HS] at hback2)
    all_goals
      go_wp2
      go_ret
      exact ⟨by rw [← unhide HE]; rfl, hB2.trans ((chain0 hb3).mono hB2.size)⟩
  · have HF := hide (entry_block hk)
    have hk' : (c.kind == 2) = false := by simp [hk]
    go_wp2
    go_ret
    exact ⟨by rw [unhide HF]; rfl, hB2⟩
end Go.Proofs.YtkeefkfklmhcjaaGreatDoor
