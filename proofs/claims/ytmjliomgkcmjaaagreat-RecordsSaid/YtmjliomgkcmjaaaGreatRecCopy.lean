import Derived.Test.YtmjliomgkcmjaaaGreatIntApp
import Derived.Test.YtmjliomgkcmjaaaGreatRecRdE
import Derived.Deep.DeepCutAuto
/-
  The walk of the law's own CopyMap (written by tools/gen/mapcopy.py).
-/
namespace Go.Proofs.YtmjliomgkcmjaaaGreat.IntW
open Go.RowKit WideW CovW
set_option linter.all false

theorem kept_two {x y : World} {base : Nat} {v v' v2 : Value} {l : List Int} (R : InRow x base v l) (F : Frm x y v' v2) (h : ∀ k, v.ownBlock = some k → v'.ownBlock ≠ some k) : InRow y base v l :=
  World.ownsRow.kept R F.1 (by
    cases hv : v.ownBlock with
    | none => exact .inl rfl
    | some k => exact .inr (fun e => h k hv e.symm))

set_option maxHeartbeats 4000000 in
theorem copyM_any (e : Int) (vs vo : Value) (ss os : List Int) (w : World) (hs : RdI w w.heap.size vs ss) (ho : RdI w w.heap.size vo os) (hz : ss.length * 8 ≤ 140737488355328) (hz' : os.length * 8 ≤ 140737488355328) :
    Calls Tryz.prog 5 #[.agg #[.int .i64 e, vs, vo]] w fun x w' => ∃ v v', x = .returned (.agg #[.int .i64 e, v, v']) ∧ InRow w' w.heap.size v ss ∧ InRow w' w.heap.size v' os ∧ Below w.heap.size w w' := by
  obtain ⟨A1, c1, rfl, l1, -⟩ := id hs
  obtain ⟨A2, c2, rfl, l3, -⟩ := id ho
  obtain ⟨w2, hw2⟩ : ∃ w2, (w.alloc (.cells #[.int .i64 e, .slice A1 ss.length c1, .slice A2 os.length c2] 26)).alloc (.cells #[.int .i64 0, .slice none 0 0, .slice none 0 0] 26) = w2 := ⟨_, rfl⟩
  have hB2 : Below w.heap.size w w2 := by rw [← hw2]; exact Ba (Ba B0)
  have bF : Blk w2 w.heap.size 26 #[.int .i64 e, .slice A1 ss.length c1, .slice A2 os.length c2] := by rw [← hw2]; exact Blk.alloc (Blk.new _ _ _) _
  have bO : Blk w2 (w.heap.size + 1) 26 #[.int .i64 0, .slice none 0 0, .slice none 0 0] := by rw [← hw2]; exact Blk.new' _ _ _ (by simp)
  have n2 : w2.heap.size = w.heap.size + 2 := by rw [← hw2]; simp
  have l2 : w.heap.size ≤ w2.heap.size := by omega
  have lO : w.heap.size + 1 < w2.heap.size := by omega
  have lP : w.heap.size ≤ w.heap.size + 1 := by omega
  have RS := hs.below hB2
  have RO := ho.below hB2
  have f0 := bF.cell 0
  have f1 := bF.cell 1
  have f2 := bF.cell 2
  simp at f0 f1 f2
  have lF : w.heap.size < w2.heap.size := by omega
  have KP : ∀ x, Below w2.heap.size w2 x → x.cell? ⟨w.heap.size, 0, none⟩ = some (.int .i64 e) ∧ x.cell? ⟨w.heap.size, 1, none⟩ = some (.slice A1 ss.length c1) ∧ x.cell? ⟨w.heap.size, 2, none⟩ = some (.slice A2 os.length c2) := fun x hb => ⟨(hb.cell (p := ⟨w.heap.size, 0, none⟩) lF).trans f0, (hb.cell (p := ⟨w.heap.size, 1, none⟩) lF).trans f1, (hb.cell (p := ⟨w.heap.size, 2, none⟩) lF).trans f2⟩
  have BX0 : Below w2.heap.size w2 w2.drew := Bd B0
  have HW2 := Lib.hid hw2
  clear hw2 hs ho
  go_enter Tryz.func5, Tryz.ntmps5
  go_wp2_with fail
  rw [HW2.out]
  clear HW2
  refine HeldX.wp_region_X (S := (fun w' => w'.cell? ⟨w.heap.size, 0, none⟩ = some (.int .i64 e) ∧ w'.cell? ⟨w.heap.size, 1, none⟩ = some (.slice A1 ss.length c1) ∧ w'.cell? ⟨w.heap.size, 2, none⟩ = some (.slice A2 os.length c2))) (by kernel_rfl) ⟨f0, f1, f2⟩ (fun hHeld => ?_)
  refine HeldX.wpAnyX_take (i := 0) (v := (.pointer (some ⟨w.heap.size, 0, none⟩))) rfl (by kernel_rfl) (by kernel_rfl) (by kernel_rfl) (fun _ _ _ h => h) (Or.inl ⟨by rfl, fun w hSw => by (try dsimp only at hSw); go_simp⟩) (by assumption) ?_
  try simp only [List.getElem_toArray, List.getElem_cons_zero, List.getElem_cons_succ, Act.put, List.setIfInBounds_toArray, List.set_cons_zero, List.set_cons_succ]
  refine HeldX.wpAnyX_take (i := 1) (v := (.int .i64 e)) rfl (by kernel_rfl) (by kernel_rfl) (by kernel_rfl) (fun _ _ _ h => h) (Or.inl ⟨by rfl, fun w hSw => by (try dsimp only at hSw); go_simp⟩) (by assumption) ?_
  try simp only [List.getElem_toArray, List.getElem_cons_zero, List.getElem_cons_succ, Act.put, List.setIfInBounds_toArray, List.set_cons_zero, List.set_cons_succ]
  refine HeldX.wpAnyX_take (i := 3) (v := (.pointer (some ⟨w.heap.size, 1, none⟩))) rfl (by kernel_rfl) (by kernel_rfl) (by kernel_rfl) (fun _ _ _ h => h) (Or.inl ⟨by rfl, fun w hSw => by (try dsimp only at hSw); go_simp⟩) (by assumption) ?_
  try simp only [List.getElem_toArray, List.getElem_cons_zero, List.getElem_cons_succ, Act.put, List.setIfInBounds_toArray, List.set_cons_zero, List.set_cons_succ]
  refine HeldX.wpAnyX_take (i := 4) (v := (.slice A1 ss.length c1)) rfl (by kernel_rfl) (by kernel_rfl) (by kernel_rfl) (fun _ _ _ h => h) (Or.inl ⟨by rfl, fun w hSw => by (try dsimp only at hSw); go_simp⟩) (by assumption) ?_
  try simp only [List.getElem_toArray, List.getElem_cons_zero, List.getElem_cons_succ, Act.put, List.setIfInBounds_toArray, List.set_cons_zero, List.set_cons_succ]
  refine HeldX.wpAnyX_take (i := 7) (v := (.pointer (some ⟨w.heap.size, 2, none⟩))) rfl (by kernel_rfl) (by kernel_rfl) (by kernel_rfl) (fun _ _ _ h => h) (Or.inl ⟨by rfl, fun w hSw => by (try dsimp only at hSw); go_simp⟩) (by assumption) ?_
  try simp only [List.getElem_toArray, List.getElem_cons_zero, List.getElem_cons_succ, Act.put, List.setIfInBounds_toArray, List.set_cons_zero, List.set_cons_succ]
  refine HeldX.wpAnyX_take (i := 8) (v := (.slice A2 os.length c2)) rfl (by kernel_rfl) (by kernel_rfl) (by kernel_rfl) (fun _ _ _ h => h) (Or.inl ⟨by rfl, fun w hSw => by (try dsimp only at hSw); go_simp⟩) (by assumption) ?_
  try simp only [List.getElem_toArray, List.getElem_cons_zero, List.getElem_cons_succ, Act.put, List.setIfInBounds_toArray, List.set_cons_zero, List.set_cons_succ]
  generalize w2.drew = x0 at *
  refine HeldX.wpAnyX_two (i := 2) (j := 6) (by kernel_rfl) rfl rfl (fun K hK => ?_) (fun K hK => ?_)
  · go_simp
    have E11 := row_empty x0 w2.heap.size (BX0.size)
    have BX1 : Below w2.heap.size w2 (x0.alloc (Obj.cells #[] 3)) := Ba BX0
    obtain ⟨g1, hg1⟩ : ∃ g, x0.heap.size = g := ⟨_, rfl⟩
    have sz1 : (x0.alloc (Obj.cells #[] 3)).heap.size = x0.heap.size + 1 := by simp
    rw [hg1] at sz1 E11
    have SZ1 := Lib.hid (And.intro hg1 sz1)
    clear sz1
    refine hK.out _ _ (KP _ BX1) (fun _ => ?_)
    clear hK K
    try rw [hg1]
    clear hg1
    generalize x0.alloc (Obj.cells #[] 3) = x1 at *
    try simp only [List.getElem_toArray, List.getElem_cons_zero, List.getElem_cons_succ, Act.put, List.setIfInBounds_toArray, List.set_cons_zero, List.set_cons_succ]
    refine HeldX.wpAnyX_two (i := 5) (j := 6) (by kernel_rfl) rfl rfl (fun K hK => ?_) (fun K hK => ?_)
    · refine app_step (base := w2.heap.size) rfl (.tmp 5) (.tmp 7) (by rfl) (by rfl) (by rfl) E11 (RS.below (BX1.mono l2)) (by simp; omega) (BX1.size) ?_
      intro v1 x2 R12 F1
      rw [List.nil_append] at R12
      have BX2 : Below w2.heap.size w2 x2 := BX1.grown F1.1 (BX1.size) (fun k hk => (World.ownsRow.lt E11 k hk).1)
      refine hK.out _ _ (KP _ BX2) (fun _ => ?_)
      clear hK K
      obtain ⟨A1', c1', rfl⟩ := R12.slice
      try simp only [List.getElem_toArray, List.getElem_cons_zero, List.getElem_cons_succ, Act.put, List.setIfInBounds_toArray, List.set_cons_zero, List.set_cons_succ]
      refine HeldX.wpAnyX_step (i := 6) (by kernel_rfl) rfl (fun K hK => ?_)
      go_simp
      have E23 := row_empty x2 w2.heap.size (BX2.size)
      have BX3 : Below w2.heap.size w2 (x2.alloc (Obj.cells #[] 3)) := Ba BX2
      obtain ⟨g2, hg2⟩ : ∃ g, x2.heap.size = g := ⟨_, rfl⟩
      have sz3 : (x2.alloc (Obj.cells #[] 3)).heap.size = x2.heap.size + 1 := by simp
      rw [hg2] at sz3 E23
      have SZ3 := Lib.hid (And.intro hg2 sz3)
      clear sz3
      have E13 := InRow.kept E11 (Ba (o := (Obj.cells #[] 3)) B0)
      have R13 := InRow.kept R12 (Ba (o := (Obj.cells #[] 3)) B0)
      refine hK.out _ _ (KP _ BX3) (fun _ => ?_)
      clear hK K
      try rw [hg2]
      clear hg2
      generalize x2.alloc (Obj.cells #[] 3) = x3 at *
      try simp only [List.getElem_toArray, List.getElem_cons_zero, List.getElem_cons_succ, Act.put, List.setIfInBounds_toArray, List.set_cons_zero, List.set_cons_succ]
      refine HeldX.wpAnyX_step (i := 9) (by kernel_rfl) rfl (fun K hK => ?_)
      refine app_step (base := w2.heap.size) rfl (.tmp 9) (.tmp 11) (by rfl) (by rfl) (by rfl) E23 (RO.below (BX3.mono l2)) (by simp; omega) (BX3.size) ?_
      intro v2 x4 R24 F2
      rw [List.nil_append] at R24
      have BX4 : Below w2.heap.size w2 x4 := BX3.grown F2.1 (BX3.size) (fun k hk => (World.ownsRow.lt E23 k hk).1)
      have R14 := kept_two R13 F2 (fun k hk e => by
        have e2 : g2 = k := by (simpa [Value.ownBlock] using e)
        have := SZ1.out
        have := SZ3.out
        have := (World.ownsRow.lt R12 k hk).2
        omega)
      refine hK.out _ _ (KP _ BX4) (fun _ => ?_)
      clear hK K
      obtain ⟨A2', c2', rfl⟩ := R24.slice
      try simp only [List.getElem_toArray, List.getElem_cons_zero, List.getElem_cons_succ, Act.put, List.setIfInBounds_toArray, List.set_cons_zero, List.set_cons_succ]
      refine HeldX.wpAnyX_take (i := 10) (v := (.agg #[.int .i64 e, .slice A1' ss.length c1', .slice A2' os.length c2'])) rfl (by kernel_rfl) (by kernel_rfl) (by kernel_rfl) (fun _ _ _ h => h) (Or.inl ⟨by rfl, fun w hSw => by (try dsimp only at hSw); go_simp⟩) (by assumption) ?_
      try simp only [List.getElem_toArray, List.getElem_cons_zero, List.getElem_cons_succ, Act.put, List.setIfInBounds_toArray, List.set_cons_zero, List.set_cons_succ]
      have bX := bO.keep BX4
      have o0 := bX.cell 0
      have o1 := bX.cell 1
      have o2 := bX.cell 2
      have z0 := bX.frozen 0
      have z1 := bX.frozen 1
      have z2 := bX.frozen 2
      simp at o0 o1 o2
      refine HeldX.wpAnyX_last (i := 11) (by kernel_rfl) (by kernel_rfl) rfl (fun K hK => ?_)
      go_simp
      refine hK.out _ _ ?_
      clear hK K
      go_wp2_with fail
      refine bodyPost_ret (v := .agg #[.int .i64 e, .slice A1' ss.length c1', .slice A2' os.length c2']) (by simp [results, Tryz.results5, go_sem, o0, o1, o2]) rfl ⟨_, _, rfl, ?_, ?_, ?_⟩
      · exact InRow.mono (ownsRow_setCell_below (ownsRow_setCell_below (ownsRow_setCell_below R14 lO _) lO _) lO _) l2
      · exact InRow.mono (ownsRow_setCell_below (ownsRow_setCell_below (ownsRow_setCell_below R24 lO _) lO _) lO _) l2
      · exact Bs (Bs (Bs (hB2.trans (BX4.mono l2)) lP) lP) lP
    · go_simp
      have E22 := row_empty x1 w2.heap.size (BX1.size)
      have BX2 : Below w2.heap.size w2 (x1.alloc (Obj.cells #[] 3)) := Ba BX1
      obtain ⟨g2, hg2⟩ : ∃ g, x1.heap.size = g := ⟨_, rfl⟩
      have sz2 : (x1.alloc (Obj.cells #[] 3)).heap.size = x1.heap.size + 1 := by simp
      rw [hg2] at sz2 E22
      have SZ2 := Lib.hid (And.intro hg2 sz2)
      clear sz2
      have E12 := InRow.kept E11 (Ba (o := (Obj.cells #[] 3)) B0)
      refine hK.out _ _ (KP _ BX2) (fun _ => ?_)
      clear hK K
      try rw [hg2]
      clear hg2
      generalize x1.alloc (Obj.cells #[] 3) = x2 at *
      try simp only [List.getElem_toArray, List.getElem_cons_zero, List.getElem_cons_succ, Act.put, List.setIfInBounds_toArray, List.set_cons_zero, List.set_cons_succ]
      refine HeldX.wpAnyX_step (i := 5) (by kernel_rfl) rfl (fun K hK => ?_)
      refine app_step (base := w2.heap.size) rfl (.tmp 5) (.tmp 7) (by rfl) (by rfl) (by rfl) E12 (RS.below (BX2.mono l2)) (by simp; omega) (BX2.size) ?_
      intro v1 x3 R13 F1
      rw [List.nil_append] at R13
      have BX3 : Below w2.heap.size w2 x3 := BX2.grown F1.1 (BX2.size) (fun k hk => (World.ownsRow.lt E12 k hk).1)
      have E23 := kept_two E22 F1 (fun k hk e => by
        have e2 : g2 = k := by (simpa [Value.ownBlock] using hk)
        have e1 : g1 = k := by (simpa [Value.ownBlock] using e)
        have := SZ1.out
        have := SZ2.out
        omega)
      refine hK.out _ _ (KP _ BX3) (fun _ => ?_)
      clear hK K
      obtain ⟨A1', c1', rfl⟩ := R13.slice
      try simp only [List.getElem_toArray, List.getElem_cons_zero, List.getElem_cons_succ, Act.put, List.setIfInBounds_toArray, List.set_cons_zero, List.set_cons_succ]
      refine HeldX.wpAnyX_step (i := 9) (by kernel_rfl) rfl (fun K hK => ?_)
      refine app_step (base := w2.heap.size) rfl (.tmp 9) (.tmp 11) (by rfl) (by rfl) (by rfl) E23 (RO.below (BX3.mono l2)) (by simp; omega) (BX3.size) ?_
      intro v2 x4 R24 F2
      rw [List.nil_append] at R24
      have BX4 : Below w2.heap.size w2 x4 := BX3.grown F2.1 (BX3.size) (fun k hk => (World.ownsRow.lt E23 k hk).1)
      have R14 := kept_two R13 F2 (fun k hk e => by
        have e2 : g2 = k := by (simpa [Value.ownBlock] using e)
        have := SZ1.out
        have := SZ2.out
        rcases F1.2 k hk with h | h
        · have e1 : g1 = k := by (simpa [Value.ownBlock] using h)
          omega
        · omega)
      refine hK.out _ _ (KP _ BX4) (fun _ => ?_)
      clear hK K
      obtain ⟨A2', c2', rfl⟩ := R24.slice
      try simp only [List.getElem_toArray, List.getElem_cons_zero, List.getElem_cons_succ, Act.put, List.setIfInBounds_toArray, List.set_cons_zero, List.set_cons_succ]
      refine HeldX.wpAnyX_take (i := 10) (v := (.agg #[.int .i64 e, .slice A1' ss.length c1', .slice A2' os.length c2'])) rfl (by kernel_rfl) (by kernel_rfl) (by kernel_rfl) (fun _ _ _ h => h) (Or.inl ⟨by rfl, fun w hSw => by (try dsimp only at hSw); go_simp⟩) (by assumption) ?_
      try simp only [List.getElem_toArray, List.getElem_cons_zero, List.getElem_cons_succ, Act.put, List.setIfInBounds_toArray, List.set_cons_zero, List.set_cons_succ]
      have bX := bO.keep BX4
      have o0 := bX.cell 0
      have o1 := bX.cell 1
      have o2 := bX.cell 2
      have z0 := bX.frozen 0
      have z1 := bX.frozen 1
      have z2 := bX.frozen 2
      simp at o0 o1 o2
      refine HeldX.wpAnyX_last (i := 11) (by kernel_rfl) (by kernel_rfl) rfl (fun K hK => ?_)
      go_simp
      refine hK.out _ _ ?_
      clear hK K
      go_wp2_with fail
      refine bodyPost_ret (v := .agg #[.int .i64 e, .slice A1' ss.length c1', .slice A2' os.length c2']) (by simp [results, Tryz.results5, go_sem, o0, o1, o2]) rfl ⟨_, _, rfl, ?_, ?_, ?_⟩
      · exact InRow.mono (ownsRow_setCell_below (ownsRow_setCell_below (ownsRow_setCell_below R14 lO _) lO _) lO _) l2
      · exact InRow.mono (ownsRow_setCell_below (ownsRow_setCell_below (ownsRow_setCell_below R24 lO _) lO _) lO _) l2
      · exact Bs (Bs (Bs (hB2.trans (BX4.mono l2)) lP) lP) lP
  · go_simp
    have E21 := row_empty x0 w2.heap.size (BX0.size)
    have BX1 : Below w2.heap.size w2 (x0.alloc (Obj.cells #[] 3)) := Ba BX0
    obtain ⟨g2, hg2⟩ : ∃ g, x0.heap.size = g := ⟨_, rfl⟩
    have sz1 : (x0.alloc (Obj.cells #[] 3)).heap.size = x0.heap.size + 1 := by simp
    rw [hg2] at sz1 E21
    have SZ1 := Lib.hid (And.intro hg2 sz1)
    clear sz1
    refine hK.out _ _ (KP _ BX1) (fun _ => ?_)
    clear hK K
    try rw [hg2]
    clear hg2
    generalize x0.alloc (Obj.cells #[] 3) = x1 at *
    try simp only [List.getElem_toArray, List.getElem_cons_zero, List.getElem_cons_succ, Act.put, List.setIfInBounds_toArray, List.set_cons_zero, List.set_cons_succ]
    refine HeldX.wpAnyX_step (i := 2) (by kernel_rfl) rfl (fun K hK => ?_)
    go_simp
    have E12 := row_empty x1 w2.heap.size (BX1.size)
    have BX2 : Below w2.heap.size w2 (x1.alloc (Obj.cells #[] 3)) := Ba BX1
    obtain ⟨g1, hg1⟩ : ∃ g, x1.heap.size = g := ⟨_, rfl⟩
    have sz2 : (x1.alloc (Obj.cells #[] 3)).heap.size = x1.heap.size + 1 := by simp
    rw [hg1] at sz2 E12
    have SZ2 := Lib.hid (And.intro hg1 sz2)
    clear sz2
    have E22 := InRow.kept E21 (Ba (o := (Obj.cells #[] 3)) B0)
    refine hK.out _ _ (KP _ BX2) (fun _ => ?_)
    clear hK K
    try rw [hg1]
    clear hg1
    generalize x1.alloc (Obj.cells #[] 3) = x2 at *
    try simp only [List.getElem_toArray, List.getElem_cons_zero, List.getElem_cons_succ, Act.put, List.setIfInBounds_toArray, List.set_cons_zero, List.set_cons_succ]
    refine HeldX.wpAnyX_step (i := 5) (by kernel_rfl) rfl (fun K hK => ?_)
    refine app_step (base := w2.heap.size) rfl (.tmp 5) (.tmp 7) (by rfl) (by rfl) (by rfl) E12 (RS.below (BX2.mono l2)) (by simp; omega) (BX2.size) ?_
    intro v1 x3 R13 F1
    rw [List.nil_append] at R13
    have BX3 : Below w2.heap.size w2 x3 := BX2.grown F1.1 (BX2.size) (fun k hk => (World.ownsRow.lt E12 k hk).1)
    have E23 := kept_two E22 F1 (fun k hk e => by
      have e2 : g2 = k := by (simpa [Value.ownBlock] using hk)
      have e1 : g1 = k := by (simpa [Value.ownBlock] using e)
      have := SZ1.out
      have := SZ2.out
      omega)
    refine hK.out _ _ (KP _ BX3) (fun _ => ?_)
    clear hK K
    obtain ⟨A1', c1', rfl⟩ := R13.slice
    try simp only [List.getElem_toArray, List.getElem_cons_zero, List.getElem_cons_succ, Act.put, List.setIfInBounds_toArray, List.set_cons_zero, List.set_cons_succ]
    refine HeldX.wpAnyX_step (i := 9) (by kernel_rfl) rfl (fun K hK => ?_)
    refine app_step (base := w2.heap.size) rfl (.tmp 9) (.tmp 11) (by rfl) (by rfl) (by rfl) E23 (RO.below (BX3.mono l2)) (by simp; omega) (BX3.size) ?_
    intro v2 x4 R24 F2
    rw [List.nil_append] at R24
    have BX4 : Below w2.heap.size w2 x4 := BX3.grown F2.1 (BX3.size) (fun k hk => (World.ownsRow.lt E23 k hk).1)
    have R14 := kept_two R13 F2 (fun k hk e => by
      have e2 : g2 = k := by (simpa [Value.ownBlock] using e)
      have := SZ1.out
      have := SZ2.out
      rcases F1.2 k hk with h | h
      · have e1 : g1 = k := by (simpa [Value.ownBlock] using h)
        omega
      · omega)
    refine hK.out _ _ (KP _ BX4) (fun _ => ?_)
    clear hK K
    obtain ⟨A2', c2', rfl⟩ := R24.slice
    try simp only [List.getElem_toArray, List.getElem_cons_zero, List.getElem_cons_succ, Act.put, List.setIfInBounds_toArray, List.set_cons_zero, List.set_cons_succ]
    refine HeldX.wpAnyX_take (i := 10) (v := (.agg #[.int .i64 e, .slice A1' ss.length c1', .slice A2' os.length c2'])) rfl (by kernel_rfl) (by kernel_rfl) (by kernel_rfl) (fun _ _ _ h => h) (Or.inl ⟨by rfl, fun w hSw => by (try dsimp only at hSw); go_simp⟩) (by assumption) ?_
    try simp only [List.getElem_toArray, List.getElem_cons_zero, List.getElem_cons_succ, Act.put, List.setIfInBounds_toArray, List.set_cons_zero, List.set_cons_succ]
    have bX := bO.keep BX4
    have o0 := bX.cell 0
    have o1 := bX.cell 1
    have o2 := bX.cell 2
    have z0 := bX.frozen 0
    have z1 := bX.frozen 1
    have z2 := bX.frozen 2
    simp at o0 o1 o2
    refine HeldX.wpAnyX_last (i := 11) (by kernel_rfl) (by kernel_rfl) rfl (fun K hK => ?_)
    go_simp
    refine hK.out _ _ ?_
    clear hK K
    go_wp2_with fail
    refine bodyPost_ret (v := .agg #[.int .i64 e, .slice A1' ss.length c1', .slice A2' os.length c2']) (by simp [results, Tryz.results5, go_sem, o0, o1, o2]) rfl ⟨_, _, rfl, ?_, ?_, ?_⟩
    · exact InRow.mono (ownsRow_setCell_below (ownsRow_setCell_below (ownsRow_setCell_below R14 lO _) lO _) lO _) l2
    · exact InRow.mono (ownsRow_setCell_below (ownsRow_setCell_below (ownsRow_setCell_below R24 lO _) lO _) lO _) l2
    · exact Bs (Bs (Bs (hB2.trans (BX4.mono l2)) lP) lP) lP
end Go.Proofs.YtmjliomgkcmjaaaGreat.IntW

/-
  The walk of CopyOps: others with the same parts, rows of the call's own (written by tools/gen/reccopy.py).
-/
namespace Go.Proofs.YtmjliomgkcmjaaaGreat.RecW
open Go.RowKit Shp IntW WideW CovW ShpW
set_option linter.all false

/-- What the form's own reach says of operations. -/
def SzdO (o : OpV) : Prop := Szd o.rs ∧ o.ss.length * 8 ≤ 140737488351232 ∧ o.os.length * 8 ≤ 140737488351232
def SzdOs (l : List OpV) : Prop := l.length * 112 ≤ 140737488351232 ∧ ∀ o ∈ l, SzdO o

theorem _root_.Go.Proofs.YtmjliomgkcmjaaaGreat.ShpW.RingRow.rrow {w : World} {lo : Nat} {v : Value} {rs : List (List P2)} (h : RingRow w lo v rs) : RRow w lo w.heap.size v rs := by
  obtain ⟨us, h1, h2⟩ := h
  exact ⟨us, ORw.of h1, fun j hj => by obtain ⟨u, e, p⟩ := h2 j hj; exact ⟨u, e, ORw.of p⟩⟩
theorem IRow.of_in {w : World} {lo : Nat} {v : Value} {l : List Int} (h : InRow w lo v l) : IRow w lo w.heap.size v l := ORw.of h

theorem appg_wp {o : Oper} {a : Act} {w : World} {K : Act → World → Prop} {Q : Exit → Act → World → Prop} {T ety : TypeId} {size bytes : Nat} {z : Value} (hT : Tryz.prog.underlying T = some (.slice ety))
    (hinfo : (Tryz.prog.info? ety).map (fun i => (i.zero, i.size, i.bytes)) = some (some z, size, bytes)) (hzs : z.cells.size = size) (hsz : 0 < size) (s x : Operand)
    (ho : o.op = .call { callee := .builtin .append, args := #[s, x], argTypes := #[T, T] }) {base n g : Nat} {v : Value} {xs cs : List Value} {t : TypeId} (hs : a.eval s = v) (hx : a.eval x = .slice (some ⟨g, 0, none⟩) 1 1)
    (hown : w.ownsRow base ety size v n xs) (hg : Blk w g t cs.toArray) (hc : cs.length = size) (h1 : ∀ u ∈ cs, u.oneCell' = true) (hn : n + 1 ≤ maxLen) (hb : (n + 1) * bytes ≤ 140737488355328) (hbase : base ≤ w.heap.size)
    (h : ∀ v' w', w'.ownsRow base ety size v' (n + 1) (xs ++ cs) → Frm w w' v v' → K (a.put o.dst v') w') : Oper.wp Tryz.prog o a w K Q := by
  obtain ⟨i0, hi0, hz0, hz1, hz2⟩ := infoP hinfo
  refine wp_append_lies w s x T ho base ety i0 z size bytes hT hi0 hz0 hz1 hz2 hzs hsz v n xs hs hown ⟨g, 0, none⟩ 1 1 cs hx (by omega) (fun j u hu => ?_) h1 (by omega) hn hb hbase w.heap.size rfl ?_
  · have ea : (⟨g, 0, none⟩ : Addr).add j = ⟨g, j, none⟩ := by unfold Addr.add; split <;> simp_all
    rw [ea, hg.cell]
    simpa using hu
  · intro g' cap w' hr hg' hat hlt
    refine h _ w' hr ⟨hg', fun k hk => ?_⟩
    have e : g' = k := by simpa [Value.ownBlock] using hk
    subst e
    rcases hat with h | h
    · exact .inl h
    · exact .inr (by omega)
theorem appg_step {ops : Array Oper} {o : Oper} {a : Act} {w : World} {K : Act → World → Prop} {Q : Exit → Act → World → Prop} {E : Prop} {T ety : TypeId} {size bytes : Nat} {z : Value} (hT : Tryz.prog.underlying T = some (.slice ety))
    (hinfo : (Tryz.prog.info? ety).map (fun i => (i.zero, i.size, i.bytes)) = some (some z, size, bytes)) (hzs : z.cells.size = size) (hsz : 0 < size) (hgd : o.guard = none) (s x : Operand)
    (ho : o.op = .call { callee := .builtin .append, args := #[s, x], argTypes := #[T, T] }) {base n g : Nat} {v : Value} {xs cs : List Value} {t : TypeId} (hs : a.eval s = v) (hx : a.eval x = .slice (some ⟨g, 0, none⟩) 1 1)
    (hown : w.ownsRow base ety size v n xs) (hg : Blk w g t cs.toArray) (hc : cs.length = size) (h1 : ∀ u ∈ cs, u.oneCell' = true) (hn : n + 1 ≤ maxLen) (hb : (n + 1) * bytes ≤ 140737488355328) (hbase : base ≤ w.heap.size)
    (h : ∀ v' w', w'.ownsRow base ety size v' (n + 1) (xs ++ cs) → Frm w w' v v' → K (a.put o.dst v') w') : if Region.wanted o (yielded ops a.tmps) = true then Oper.wp Tryz.prog o a w K Q else E := by
  have hw : Region.wanted o (yielded ops a.tmps) = true := by simp [Region.wanted, hgd]
  rw [if_pos hw]
  exact appg_wp hT hinfo hzs hsz s x ho hs hx hown hg hc h1 hn hb hbase h
theorem take_op {l : List OpV} {k : Nat} (h : k < l.length) : l.take (k + 1) = l.take k ++ [opAt l k] := by
  rw [List.take_add_one, List.getElem?_eq_getElem h, opAt_eq h]
  rfl
theorem kb8 {W W' : World} {a0 a1 a2 a3 a4 a5 a6 a7 : Addr} {v0 v1 v2 v3 v4 v5 v6 v7 : Value} {B : Nat} (hb : Below B W W') (h0 : a0.block < B ∧ a1.block < B ∧ a2.block < B ∧ a3.block < B ∧ a4.block < B ∧ a5.block < B ∧ a6.block < B ∧ a7.block < B)
    (h : W.cell? a0 = some v0 ∧ W.cell? a1 = some v1 ∧ W.cell? a2 = some v2 ∧ W.cell? a3 = some v3 ∧ W.cell? a4 = some v4 ∧ W.cell? a5 = some v5 ∧ W.cell? a6 = some v6 ∧ W.cell? a7 = some v7) :
    W'.cell? a0 = some v0 ∧ W'.cell? a1 = some v1 ∧ W'.cell? a2 = some v2 ∧ W'.cell? a3 = some v3 ∧ W'.cell? a4 = some v4 ∧ W'.cell? a5 = some v5 ∧ W'.cell? a6 = some v6 ∧ W'.cell? a7 = some v7 :=
  ⟨(hb.cell h0.1).trans h.1, (hb.cell h0.2.1).trans h.2.1, (hb.cell h0.2.2.1).trans h.2.2.1, (hb.cell h0.2.2.2.1).trans h.2.2.2.1, (hb.cell h0.2.2.2.2.1).trans h.2.2.2.2.1, (hb.cell h0.2.2.2.2.2.1).trans h.2.2.2.2.2.1, (hb.cell h0.2.2.2.2.2.2.1).trans h.2.2.2.2.2.2.1, (hb.cell h0.2.2.2.2.2.2.2).trans h.2.2.2.2.2.2.2⟩

set_option maxRecDepth 100000 in
set_option maxHeartbeats 8000000 in
theorem copyO_any (v : Value) (l : List OpV) (w : World) (hv : RdOs w w.heap.size v l) (hz : SzdOs l) :
    Calls Tryz.prog 4 #[v] w fun e w' => ∃ v', e = .returned v' ∧ ORow w' w.heap.size w'.heap.size v' l ∧ Below w.heap.size w w' := by
  obtain ⟨hz1, hz2⟩ := hz
  have HZ := Lib.hid hz2
  obtain ⟨A, c, rfl, hl, hc⟩ := hv
  obtain ⟨m, hm⟩ : ∃ m, l.length = m := ⟨_, rfl⟩
  rw [hm] at hc hz1 hl ⊢
  have HM := Lib.hid hm
  clear hz2 hm
  go_enter Tryz.func4, Tryz.ntmps4
  go_wp2_with fail
  go_loopw [3, 4] (fun u i W => ∃ k : Nat, k ≤ m ∧ i = .int .i64 k ∧ ORow W w.heap.size W.heap.size u (l.take k) ∧ Below w.heap.size w W) (fun _ i _ => m - (intOf i).toNat)
  case atStart => exact ⟨0, Nat.zero_le _, rfl, by rw [List.take_zero]; exact ORow.nil _ _ _, B0⟩
  case round =>
    obtain ⟨k, hk, rfl, hP, hF⟩ := hrel
    have hlk : (l.take k).length = k := by rw [List.length_take, HM.out]; omega
    have HLK := Lib.hid hlk
    obtain ⟨us, hP, hS⟩ := hP
    rw [hlk] at hP hS
    obtain ⟨A3, c3, rfl⟩ := row_slice hP.1
    have HP := Lib.hid hP
    have HS := Lib.hid hS
    clear hlk hP hS
    by_cases hlt : k < m
    case neg =>
      obtain rfl : k = m := by omega
      go_wp2_with fail
      refine bodyPost_ret (v := .slice A3 k c3) (by simp [results, Tryz.results4, go_sem]) rfl ⟨_, rfl, ?_, hF⟩
      have e : l.take k = l := List.take_of_length_le (by rw [HM.out]; exact Nat.le_refl _)
      have h2 : ORow wr w.heap.size wr.heap.size (.slice A3 k c3) (l.take k) := ⟨us, by rw [HLK.out]; exact HP.out, by rw [HLK.out]; exact HS.out⟩
      rw [e] at h2
      exact h2
    obtain ⟨b, off, rfl, hb, hcs⟩ := hc (by omega)
    have hin : k < l.length := by have := HM.out; omega
    have hop := hcs k hlt
    have hszo := HZ.out _ (opAt_mem hin)
    have HT := Lib.hid (take_op hin)
    obtain ⟨o, ho⟩ : ∃ o, opAt l k = o := ⟨_, rfl⟩
    rw [ho] at hop hszo HT
    clear ho hcs hin hc
    obtain ⟨rv, v1, v2, ⟨d0, d1, d2, d3, d4, d5, d6, d7⟩, r1, r2, r3⟩ := hop
    obtain ⟨kind, fid, sh, rs, id, ep, ss, os⟩ := o
    dsimp only at *
    obtain ⟨A0, c0, rfl⟩ := rdr_form r1
    obtain ⟨A1, c1, rfl⟩ := rdi_form r2
    obtain ⟨A2, c2, rfl⟩ := rdi_form r3
    obtain ⟨n0, hn0⟩ : ∃ n, rs.length = n := ⟨_, rfl⟩
    obtain ⟨n1, hn1⟩ : ∃ n, ss.length = n := ⟨_, rfl⟩
    obtain ⟨n2, hn2⟩ : ∃ n, os.length = n := ⟨_, rfl⟩
    rw [hn0] at d3 r1
    rw [hn1] at d6 r2
    rw [hn2] at d7 r3
    have HSZ := Lib.hid hszo
    have R1 := Lib.hid r1
    have R2 := Lib.hid r2
    have R3 := Lib.hid r3
    have HB8 : Hid (b < w.heap.size) := Lib.hid hb
    have hcells := kb8 hF ⟨hb, hb, hb, hb, hb, hb, hb, hb⟩ ⟨d0, d1, d2, d3, d4, d5, d6, d7⟩
    obtain ⟨z0, z1, z2, z3, z4, z5, z6, z7⟩ := hcells
    have HZC := Lib.hid (And.intro d0 (And.intro d1 (And.intro d2 (And.intro d3 (And.intro d4 (And.intro d5 (And.intro d6 d7)))))))
    clear d0 d1 d2 d3 d4 d5 d6 d7 r1 r2 r3 hszo hn0 hn1 hn2
    have KP : ∀ x, Below w.heap.size w x → x.cell? ⟨b, off + k * 8, none⟩ = some (.int .i64 kind) ∧ x.cell? ⟨b, off + k * 8 + 1, none⟩ = some (.int .i64 fid) ∧ x.cell? ⟨b, off + k * 8 + 2, none⟩ = some (.int .i64 sh) ∧ x.cell? ⟨b, off + k * 8 + 3, none⟩ = some (.slice A0 n0 c0) ∧ x.cell? ⟨b, off + k * 8 + 4, none⟩ = some (.int .i64 id) ∧ x.cell? ⟨b, off + k * 8 + 5, none⟩ = some (.int .i64 ep) ∧ x.cell? ⟨b, off + k * 8 + 6, none⟩ = some (.slice A1 n1 c1) ∧ x.cell? ⟨b, off + k * 8 + 7, none⟩ = some (.slice A2 n2 c2) := fun x hx => kb8 hx ⟨HB8.out, HB8.out, HB8.out, HB8.out, HB8.out, HB8.out, HB8.out, HB8.out⟩ HZC.out
    have hFd : Below w.heap.size w wr.drew := Bd hF
    have hwd : wr.drew.heap.size = wr.heap.size := rfl
    go_upto_region 5 with fail
    refine HeldY.wp_region_X (S := (fun w' => w'.cell? ⟨b, off + k * 8, none⟩ = some (.int .i64 kind) ∧ w'.cell? ⟨b, off + k * 8 + 1, none⟩ = some (.int .i64 fid) ∧ w'.cell? ⟨b, off + k * 8 + 2, none⟩ = some (.int .i64 sh) ∧ w'.cell? ⟨b, off + k * 8 + 3, none⟩ = some (.slice A0 n0 c0) ∧ w'.cell? ⟨b, off + k * 8 + 4, none⟩ = some (.int .i64 id) ∧ w'.cell? ⟨b, off + k * 8 + 5, none⟩ = some (.int .i64 ep) ∧ w'.cell? ⟨b, off + k * 8 + 6, none⟩ = some (.slice A1 n1 c1) ∧ w'.cell? ⟨b, off + k * 8 + 7, none⟩ = some (.slice A2 n2 c2))) (by kernel_rfl) ⟨z0, z1, z2, z3, z4, z5, z6, z7⟩ (fun hHeld => ?_)
    refine HeldY.wpAnyX_take (i := 0) (v := (.slice A3 k c3)) rfl (by kernel_rfl) (by kernel_rfl) (by kernel_rfl) (by kernel_rfl) (fun _ _ _ h => h) (Or.inl ⟨by rfl, fun w hSw => by (try dsimp only at hSw); go_simp⟩) (by assumption) ?_
    try simp only [List.getElem_toArray, List.getElem_cons_zero, List.getElem_cons_succ, Act.put, List.setIfInBounds_toArray, List.set_cons_zero, List.set_cons_succ]
    refine HeldY.wpAnyX_take (i := 1) (v := (.slice (some ⟨b, off, none⟩) m c)) rfl (by kernel_rfl) (by kernel_rfl) (by kernel_rfl) (by kernel_rfl) (fun _ _ _ h => h) (Or.inl ⟨by rfl, fun w hSw => by (try dsimp only at hSw); go_simp⟩) (by assumption) ?_
    try simp only [List.getElem_toArray, List.getElem_cons_zero, List.getElem_cons_succ, Act.put, List.setIfInBounds_toArray, List.set_cons_zero, List.set_cons_succ]
    refine HeldY.wpAnyX_take (i := 2) (v := (.int .i64 k)) rfl (by kernel_rfl) (by kernel_rfl) (by kernel_rfl) (by kernel_rfl) (fun _ _ _ h => h) (Or.inl ⟨by rfl, fun w hSw => by (try dsimp only at hSw); go_simp⟩) (by assumption) ?_
    try simp only [List.getElem_toArray, List.getElem_cons_zero, List.getElem_cons_succ, Act.put, List.setIfInBounds_toArray, List.set_cons_zero, List.set_cons_succ]
    refine HeldY.wpAnyX_take (i := 3) (v := (.pointer (some ⟨b, off + k * 8, none⟩))) rfl (by kernel_rfl) (by kernel_rfl) (by kernel_rfl) (by kernel_rfl) (fun _ _ _ h => h) (Or.inl ⟨by rfl, fun w hSw => by (try dsimp only at hSw); go_simp⟩) (by assumption) ?_
    try simp only [List.getElem_toArray, List.getElem_cons_zero, List.getElem_cons_succ, Act.put, List.setIfInBounds_toArray, List.set_cons_zero, List.set_cons_succ]
    refine HeldY.wpAnyX_take (i := 4) (v := (.pointer (some ⟨b, off + k * 8, none⟩))) rfl (by kernel_rfl) (by kernel_rfl) (by kernel_rfl) (by kernel_rfl) (fun _ _ _ h => h) (Or.inl ⟨by rfl, fun w hSw => by (try dsimp only at hSw); go_simp⟩) (by assumption) ?_
    try simp only [List.getElem_toArray, List.getElem_cons_zero, List.getElem_cons_succ, Act.put, List.setIfInBounds_toArray, List.set_cons_zero, List.set_cons_succ]
    refine HeldY.wpAnyX_take (i := 5) (v := (.int .i64 kind)) rfl (by kernel_rfl) (by kernel_rfl) (by kernel_rfl) (by kernel_rfl) (fun _ _ _ h => h) (Or.inl ⟨by rfl, fun w hSw => by (try dsimp only at hSw); go_simp⟩) (by assumption) ?_
    try simp only [List.getElem_toArray, List.getElem_cons_zero, List.getElem_cons_succ, Act.put, List.setIfInBounds_toArray, List.set_cons_zero, List.set_cons_succ]
    refine HeldY.wpAnyX_take (i := 6) (v := (.slice (some ⟨b, off, none⟩) m c)) rfl (by kernel_rfl) (by kernel_rfl) (by kernel_rfl) (by kernel_rfl) (fun _ _ _ h => h) (Or.inl ⟨by rfl, fun w hSw => by (try dsimp only at hSw); go_simp⟩) (by assumption) ?_
    try simp only [List.getElem_toArray, List.getElem_cons_zero, List.getElem_cons_succ, Act.put, List.setIfInBounds_toArray, List.set_cons_zero, List.set_cons_succ]
    refine HeldY.wpAnyX_take (i := 7) (v := (.int .i64 k)) rfl (by kernel_rfl) (by kernel_rfl) (by kernel_rfl) (by kernel_rfl) (fun _ _ _ h => h) (Or.inl ⟨by rfl, fun w hSw => by (try dsimp only at hSw); go_simp⟩) (by assumption) ?_
    try simp only [List.getElem_toArray, List.getElem_cons_zero, List.getElem_cons_succ, Act.put, List.setIfInBounds_toArray, List.set_cons_zero, List.set_cons_succ]
    refine HeldY.wpAnyX_take (i := 8) (v := (.pointer (some ⟨b, off + k * 8, none⟩))) rfl (by kernel_rfl) (by kernel_rfl) (by kernel_rfl) (by kernel_rfl) (fun _ _ _ h => h) (Or.inl ⟨by rfl, fun w hSw => by (try dsimp only at hSw); go_simp⟩) (by assumption) ?_
    try simp only [List.getElem_toArray, List.getElem_cons_zero, List.getElem_cons_succ, Act.put, List.setIfInBounds_toArray, List.set_cons_zero, List.set_cons_succ]
    refine HeldY.wpAnyX_take (i := 9) (v := (.pointer (some ⟨b, off + k * 8 + 4, none⟩))) rfl (by kernel_rfl) (by kernel_rfl) (by kernel_rfl) (by kernel_rfl) (fun _ _ _ h => h) (Or.inl ⟨by rfl, fun w hSw => by (try dsimp only at hSw); go_simp⟩) (by assumption) ?_
    try simp only [List.getElem_toArray, List.getElem_cons_zero, List.getElem_cons_succ, Act.put, List.setIfInBounds_toArray, List.set_cons_zero, List.set_cons_succ]
    refine HeldY.wpAnyX_take (i := 10) (v := (.int .i64 id)) rfl (by kernel_rfl) (by kernel_rfl) (by kernel_rfl) (by kernel_rfl) (fun _ _ _ h => h) (Or.inl ⟨by rfl, fun w hSw => by (try dsimp only at hSw); go_simp⟩) (by assumption) ?_
    try simp only [List.getElem_toArray, List.getElem_cons_zero, List.getElem_cons_succ, Act.put, List.setIfInBounds_toArray, List.set_cons_zero, List.set_cons_succ]
    refine HeldY.wpAnyX_take (i := 11) (v := (.slice (some ⟨b, off, none⟩) m c)) rfl (by kernel_rfl) (by kernel_rfl) (by kernel_rfl) (by kernel_rfl) (fun _ _ _ h => h) (Or.inl ⟨by rfl, fun w hSw => by (try dsimp only at hSw); go_simp⟩) (by assumption) ?_
    try simp only [List.getElem_toArray, List.getElem_cons_zero, List.getElem_cons_succ, Act.put, List.setIfInBounds_toArray, List.set_cons_zero, List.set_cons_succ]
    refine HeldY.wpAnyX_take (i := 12) (v := (.int .i64 k)) rfl (by kernel_rfl) (by kernel_rfl) (by kernel_rfl) (by kernel_rfl) (fun _ _ _ h => h) (Or.inl ⟨by rfl, fun w hSw => by (try dsimp only at hSw); go_simp⟩) (by assumption) ?_
    try simp only [List.getElem_toArray, List.getElem_cons_zero, List.getElem_cons_succ, Act.put, List.setIfInBounds_toArray, List.set_cons_zero, List.set_cons_succ]
    refine HeldY.wpAnyX_take (i := 13) (v := (.pointer (some ⟨b, off + k * 8, none⟩))) rfl (by kernel_rfl) (by kernel_rfl) (by kernel_rfl) (by kernel_rfl) (fun _ _ _ h => h) (Or.inl ⟨by rfl, fun w hSw => by (try dsimp only at hSw); go_simp⟩) (by assumption) ?_
    try simp only [List.getElem_toArray, List.getElem_cons_zero, List.getElem_cons_succ, Act.put, List.setIfInBounds_toArray, List.set_cons_zero, List.set_cons_succ]
    refine HeldY.wpAnyX_take (i := 14) (v := (.pointer (some ⟨b, off + k * 8 + 1, none⟩))) rfl (by kernel_rfl) (by kernel_rfl) (by kernel_rfl) (by kernel_rfl) (fun _ _ _ h => h) (Or.inl ⟨by rfl, fun w hSw => by (try dsimp only at hSw); go_simp⟩) (by assumption) ?_
    try simp only [List.getElem_toArray, List.getElem_cons_zero, List.getElem_cons_succ, Act.put, List.setIfInBounds_toArray, List.set_cons_zero, List.set_cons_succ]
    refine HeldY.wpAnyX_take (i := 15) (v := (.agg #[(.int .i64 fid), (.int .i64 sh), (.slice A0 n0 c0)])) rfl (by kernel_rfl) (by kernel_rfl) (by kernel_rfl) (by kernel_rfl) (fun _ _ _ h => h) (Or.inl ⟨by rfl, fun w hSw => by (try dsimp only at hSw); go_simp⟩) (by assumption) ?_
    try simp only [List.getElem_toArray, List.getElem_cons_zero, List.getElem_cons_succ, Act.put, List.setIfInBounds_toArray, List.set_cons_zero, List.set_cons_succ]
    refine HeldY.wpAnyX_take (i := 17) (v := (.slice (some ⟨b, off, none⟩) m c)) rfl (by kernel_rfl) (by kernel_rfl) (by kernel_rfl) (by kernel_rfl) (fun _ _ _ h => h) (Or.inl ⟨by rfl, fun w hSw => by (try dsimp only at hSw); go_simp⟩) (by assumption) ?_
    try simp only [List.getElem_toArray, List.getElem_cons_zero, List.getElem_cons_succ, Act.put, List.setIfInBounds_toArray, List.set_cons_zero, List.set_cons_succ]
    refine HeldY.wpAnyX_take (i := 18) (v := (.int .i64 k)) rfl (by kernel_rfl) (by kernel_rfl) (by kernel_rfl) (by kernel_rfl) (fun _ _ _ h => h) (Or.inl ⟨by rfl, fun w hSw => by (try dsimp only at hSw); go_simp⟩) (by assumption) ?_
    try simp only [List.getElem_toArray, List.getElem_cons_zero, List.getElem_cons_succ, Act.put, List.setIfInBounds_toArray, List.set_cons_zero, List.set_cons_succ]
    refine HeldY.wpAnyX_take (i := 19) (v := (.pointer (some ⟨b, off + k * 8, none⟩))) rfl (by kernel_rfl) (by kernel_rfl) (by kernel_rfl) (by kernel_rfl) (fun _ _ _ h => h) (Or.inl ⟨by rfl, fun w hSw => by (try dsimp only at hSw); go_simp⟩) (by assumption) ?_
    try simp only [List.getElem_toArray, List.getElem_cons_zero, List.getElem_cons_succ, Act.put, List.setIfInBounds_toArray, List.set_cons_zero, List.set_cons_succ]
    refine HeldY.wpAnyX_take (i := 20) (v := (.pointer (some ⟨b, off + k * 8 + 5, none⟩))) rfl (by kernel_rfl) (by kernel_rfl) (by kernel_rfl) (by kernel_rfl) (fun _ _ _ h => h) (Or.inl ⟨by rfl, fun w hSw => by (try dsimp only at hSw); go_simp⟩) (by assumption) ?_
    try simp only [List.getElem_toArray, List.getElem_cons_zero, List.getElem_cons_succ, Act.put, List.setIfInBounds_toArray, List.set_cons_zero, List.set_cons_succ]
    refine HeldY.wpAnyX_take (i := 21) (v := (.agg #[(.int .i64 ep), (.slice A1 n1 c1), (.slice A2 n2 c2)])) rfl (by kernel_rfl) (by kernel_rfl) (by kernel_rfl) (by kernel_rfl) (fun _ _ _ h => h) (Or.inl ⟨by rfl, fun w hSw => by (try dsimp only at hSw); go_simp⟩) (by assumption) ?_
    try simp only [List.getElem_toArray, List.getElem_cons_zero, List.getElem_cons_succ, Act.put, List.setIfInBounds_toArray, List.set_cons_zero, List.set_cons_succ]
    refine HeldY.wpAnyX_step (i := 16) (by kernel_rfl) rfl (fun K hK => ?_)
    go_simp
    refine (copyT_any fid sh _ rs _ ((R1.out.keep (fun p hp => hFd.cell hp)).more hFd.size) HSZ.out.1).mono ?_
    rintro _ wA ⟨u, rfl, hRR, hbA⟩
    have hFA := hFd.trans (hbA.mono hFd.size)
    have HRR := Lib.hid hRR.rrow
    obtain ⟨usr, hu0, -⟩ := hRR
    obtain ⟨B0', d0, eu⟩ := row_slice hu0
    obtain ⟨q0, hq0⟩ : ∃ q, rs.length = q := ⟨_, rfl⟩
    rw [hq0] at eu
    subst eu
    clear hu0 hq0
    refine hK.out _ _ (KP _ hFA) (fun _ => ?_)
    clear hK K
    try simp only [List.getElem_toArray, List.getElem_cons_zero, List.getElem_cons_succ, Act.put, List.setIfInBounds_toArray, List.set_cons_zero, List.set_cons_succ]
    refine HeldY.wpAnyX_step (i := 22) (by kernel_rfl) rfl (fun K hK => ?_)
    go_simp
    refine (copyM_any ep _ _ ss os _ ((R2.out.below hFA).more hFA.size) ((R3.out.below hFA).more hFA.size) (Nat.le_trans HSZ.out.2.1 (by decide)) (Nat.le_trans HSZ.out.2.2 (by decide))).mono ?_
    rintro _ wB ⟨u1, u2, rfl, hI1, hI2, hbB⟩
    have hFB := hFA.trans (hbB.mono hFA.size)
    have HI1 := Lib.hid (IRow.of_in hI1)
    have HI2 := Lib.hid (IRow.of_in hI2)
    obtain ⟨B1', d1, e1⟩ := hI1.slice
    obtain ⟨B2', d2, e2⟩ := hI2.slice
    obtain ⟨q1, hq1⟩ : ∃ q, ss.length = q := ⟨_, rfl⟩
    obtain ⟨q2, hq2⟩ : ∃ q, os.length = q := ⟨_, rfl⟩
    rw [hq1] at e1
    rw [hq2] at e2
    subst e1 e2
    clear hI1 hI2 hq1 hq2
    refine hK.out _ _ (KP _ hFB) (fun _ => ?_)
    clear hK K
    try simp only [List.getElem_toArray, List.getElem_cons_zero, List.getElem_cons_succ, Act.put, List.setIfInBounds_toArray, List.set_cons_zero, List.set_cons_succ]
    refine HeldY.wpAnyX_take (i := 23) (v := (.agg #[.int .i64 kind, .int .i64 fid, .int .i64 sh, .slice B0' q0 d0, .int .i64 id, .int .i64 ep, .slice B1' q1 d1, .slice B2' q2 d2])) rfl (by kernel_rfl) (by kernel_rfl) (by kernel_rfl) (by kernel_rfl) (fun _ _ _ h => h) (Or.inl ⟨by rfl, fun w hSw => by (try dsimp only at hSw); go_simp⟩) (by assumption) ?_
    try simp only [List.getElem_toArray, List.getElem_cons_zero, List.getElem_cons_succ, Act.put, List.setIfInBounds_toArray, List.set_cons_zero, List.set_cons_succ]
    refine HeldY.wpAnyX_step (i := 24) (by kernel_rfl) rfl (fun K hK => ?_)
    go_simp
    have hFC : Below w.heap.size w (wB.alloc (.cells #[.int .i64 kind, .int .i64 fid, .int .i64 sh, .slice B0' q0 d0, .int .i64 id, .int .i64 ep, .slice B1' q1 d1, .slice B2' q2 d2] 51)) := Ba hFB
    refine hK.out _ _ (KP _ hFC) (fun _ => ?_)
    clear hK K
    try simp only [List.getElem_toArray, List.getElem_cons_zero, List.getElem_cons_succ, Act.put, List.setIfInBounds_toArray, List.set_cons_zero, List.set_cons_succ]
    refine HeldY.wpAnyX_step (i := 25) (by kernel_rfl) rfl (fun K hK => ?_)
    have hbD : Below wr.heap.size wr wA := by have := hbA; exact ⟨this.os, this.tape, this.output, this.size, this.block⟩
    have hbE : Below wr.heap.size wr wB := Bt hbD hbB
    have BL := Lib.hid (Blk.new wB 51 #[.int .i64 kind, .int .i64 fid, .int .i64 sh, .slice B0' q0 d0, .int .i64 id, .int .i64 ep, .slice B1' q1 d1, .slice B2' q2 d2])
    have HP4 := Lib.hid (World.ownsRow.kept HP.out.1 (CovW.grown_below (show Below wr.heap.size wr (wB.alloc (.cells #[.int .i64 kind, .int .i64 fid, .int .i64 sh, .slice B0' q0 d0, .int .i64 id, .int .i64 ep, .slice B1' q1 d1, .slice B2' q2 d2] 51)) from Ba hbE) none) (by cases A3 <;> simp [Value.ownBlock]))
    have hszC : w.heap.size ≤ (wB.alloc (.cells #[.int .i64 kind, .int .i64 fid, .int .i64 sh, .slice B0' q0 d0, .int .i64 id, .int .i64 ep, .slice B1' q1 d1, .slice B2' q2 d2] 51)).heap.size := hFC.size
    refine appg_step (base := w.heap.size) Tryz.underlying27 op_info rfl (by decide) rfl (.tmp 11) (.tmp 35) (by rfl) (by rfl) (by rfl) HP4.out BL.out (by rfl) (fun u hu => by simp at hu; rcases hu with h | h | h | h | h | h | h | h <;> rw [h] <;> rfl) (by unfold maxLen; omega) (by omega) hszC ?_
    intro v2 x3 R3' F3
    obtain ⟨A4, c4, rfl⟩ := row_slice R3'
    have hFx : Below w.heap.size w x3 := hFC.grown F3.1 hszC (fun q hq => (World.ownsRow.lt HP4.out q hq).1)
    refine hK.out _ _ (KP _ hFx) (fun _ => ?_)
    clear hK K
    try simp only [List.getElem_toArray, List.getElem_cons_zero, List.getElem_cons_succ, Act.put, List.setIfInBounds_toArray, List.set_cons_zero, List.set_cons_succ]
    refine HeldY.wpAnyX_last (i := 26) (by kernel_rfl) (by kernel_rfl) rfl (fun K hK => ?_)
    go_simp
    refine hK.out _ _ ?_
    clear hK K
    have hs5 : wB.heap.size ≤ x3.heap.size := by have := F3.1.size; rw [alloc_size] at this; omega
    have hsA := hbD.size
    have hsB := hbB.size
    have hsF := hF.size
    have KT : Kt opIn w.heap.size wB.heap.size wB x3 := Kt.trans (Kt.of_below (Ba (o := .cells #[.int .i64 kind, .int .i64 fid, .int .i64 sh, .slice B0' q0 d0, .int .i64 id, .int .i64 ep, .slice B1' q1 d1, .slice B2' q2 d2] 51) B0) _ (Nat.le_refl _)) (Kt.of_frm F3 HP4.out (by decide))
    have HO : OCell wB wr.heap.size wB.heap.size #[.int .i64 kind, .int .i64 fid, .int .i64 sh, .slice B0' q0 d0, .int .i64 id, .int .i64 ep, .slice B1' q1 d1, .slice B2' q2 d2].toList 0 ⟨kind, fid, sh, rs, id, ep, ss, os⟩ := ⟨_, _, _, ⟨rfl, rfl, rfl, rfl, rfl, rfl, rfl, rfl⟩, (HRR.out.kept (T := opIn) (Kt.of_below hbB _ (Nat.le_refl _)) (by simp [opIn])).more hbB.size, HI1.out.less hsA, HI2.out.less hsA⟩
    have hfin : ORow x3 w.heap.size x3.heap.size (.slice A4 (k + 1) c4) (l.take k ++ [⟨kind, fid, sh, rs, id, ep, ss, os⟩]) := by
      refine ORow.push (us := us) (cs := #[.int .i64 kind, .int .i64 fid, .int .i64 sh, .slice B0' q0 d0, .int .i64 id, .int .i64 ep, .slice B1' q1 d1, .slice B2' q2 d2].toList) (hi := wB.heap.size) (by rw [HLK.out]; exact R3') (fun j hj => ?_) ((HO.less hsF).kept KT (by simp [opIn])) (by have := HP.out.1.1; rw [HLK.out]; omega) rfl hs5
      exact (((HS.out j (by rw [HLK.out] at hj; exact hj)).kept (Kt.of_below hbE opIn (Nat.le_refl _)) (by simp [opIn])).more hbE.size).kept KT (by simp [opIn])
    go_wp2_with fail
    exact ⟨⟨k + 1, by omega, by simp only [Int.natCast_add, Int.cast_ofNat_Int], by rw [HT.out]; exact hfin, hFx⟩, by simp [intOf]; omega⟩
end Go.Proofs.YtmjliomgkcmjaaaGreat.RecW
