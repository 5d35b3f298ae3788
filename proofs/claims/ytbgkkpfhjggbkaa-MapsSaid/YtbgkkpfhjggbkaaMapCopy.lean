/-
  The walk of the law's own CopyMap (written by tools/gen/mapcopy.py).
-/
import Derived.Test.YtbgkkpfhjggbkaaMapApp
namespace Go.Proofs.Ytbgkkpfhjggbkaa.IntW
open Go.RowKit WideW CovW
set_option linter.all false

theorem kept_two {x y : World} {base : Nat} {v v' v2 : Value} {l : List Int} (R : InRow x base v l) (F : Frm x y v' v2) (h : ∀ k, v.ownBlock = some k → v'.ownBlock ≠ some k) : InRow y base v l :=
  World.ownsRow.kept R F.1 (by
    cases hv : v.ownBlock with
    | none => exact .inl rfl
    | some k => exact .inr (fun e => h k hv e.symm))

set_option maxHeartbeats 4000000 in
theorem copyM_any (e : Int) (vs vo : Value) (ss os : List Int) (w : World) (hs : RdI w w.heap.size vs ss) (ho : RdI w w.heap.size vo os) (hz : ss.length * 8 ≤ 140737488355328) (hz' : os.length * 8 ≤ 140737488355328) :
    Calls Try.prog 8 #[.agg #[.int .i64 e, vs, vo]] w fun x w' => ∃ v v', x = .returned (.agg #[.int .i64 e, v, v']) ∧ InRow w' w.heap.size v ss ∧ InRow w' w.heap.size v' os ∧ Below w.heap.size w w' := by
  obtain ⟨A1, c1, rfl, l1, -⟩ := id hs
  obtain ⟨A2, c2, rfl, l3, -⟩ := id ho
  obtain ⟨w2, hw2⟩ : ∃ w2, (w.alloc (.cells #[.int .i64 e, .slice A1 ss.length c1, .slice A2 os.length c2] 24)).alloc (.cells #[.int .i64 0, .slice none 0 0, .slice none 0 0] 24) = w2 := ⟨_, rfl⟩
  have hB2 : Below w.heap.size w w2 := by rw [← hw2]; exact Ba (Ba B0)
  have bF : Blk w2 w.heap.size 24 #[.int .i64 e, .slice A1 ss.length c1, .slice A2 os.length c2] := by rw [← hw2]; exact Blk.alloc (Blk.new _ _ _) _
  have bO : Blk w2 (w.heap.size + 1) 24 #[.int .i64 0, .slice none 0 0, .slice none 0 0] := by rw [← hw2]; exact Blk.new' _ _ _ (by simp)
  have n2 : w2.heap.size = w.heap.size + 2 := by rw [← hw2]; simp
  have l2 : w.heap.size ≤ w2.heap.size := by omega
  have lO : w.heap.size + 1 < w2.heap.size := by omega
  have lP : w.heap.size ≤ w.heap.size + 1 := by omega
  have RS := hs.below hB2
  have RO := ho.below hB2
  have f0 := bF.cell 0
  have f1 := bF.cell 1
  have f2 := bF.cell 2
  simp at f0 f1 f2
  have lF : w.heap.size < w2.heap.size := by omega
  have KP : ∀ x, Below w2.heap.size w2 x → x.cell? ⟨w.heap.size, 0, none⟩ = some (.int .i64 e) ∧ x.cell? ⟨w.heap.size, 1, none⟩ = some (.slice A1 ss.length c1) ∧ x.cell? ⟨w.heap.size, 2, none⟩ = some (.slice A2 os.length c2) := fun x hb => ⟨(hb.cell (p := ⟨w.heap.size, 0, none⟩) lF).trans f0, (hb.cell (p := ⟨w.heap.size, 1, none⟩) lF).trans f1, (hb.cell (p := ⟨w.heap.size, 2, none⟩) lF).trans f2⟩
  have BX0 : Below w2.heap.size w2 w2.drew := Bd B0
  have HW2 := Lib.hid hw2
  clear hw2 hs ho
  go_enter Try.func8, Try.ntmps8
  go_wp2_with fail
  rw [HW2.out]
  clear HW2
  refine HeldX.wp_region_X (S := (fun w' => w'.cell? ⟨w.heap.size, 0, none⟩ = some (.int .i64 e) ∧ w'.cell? ⟨w.heap.size, 1, none⟩ = some (.slice A1 ss.length c1) ∧ w'.cell? ⟨w.heap.size, 2, none⟩ = some (.slice A2 os.length c2))) (by kernel_rfl) ⟨f0, f1, f2⟩ (fun hHeld => ?_)
  refine HeldX.wpAnyX_take (i := 0) (v := (.pointer (some ⟨w.heap.size, 0, none⟩))) rfl (by kernel_rfl) (by kernel_rfl) (by kernel_rfl) (fun _ _ _ h => h) (Or.inl ⟨by rfl, fun w hSw => by (try dsimp only at hSw); go_simp⟩) (by assumption) ?_
  try simp only [List.getElem_toArray, List.getElem_cons_zero, List.getElem_cons_succ, Act.put, List.setIfInBounds_toArray, List.set_cons_zero, List.set_cons_succ]
  refine HeldX.wpAnyX_take (i := 1) (v := (.int .i64 e)) rfl (by kernel_rfl) (by kernel_rfl) (by kernel_rfl) (fun _ _ _ h => h) (Or.inl ⟨by rfl, fun w hSw => by (try dsimp only at hSw); go_simp⟩) (by assumption) ?_
  try simp only [List.getElem_toArray, List.getElem_cons_zero, List.getElem_cons_succ, Act.put, List.setIfInBounds_toArray, List.set_cons_zero, List.set_cons_succ]
  refine HeldX.wpAnyX_take (i := 3) (v := (.pointer (some ⟨w.heap.size, 1, none⟩))) rfl (by kernel_rfl) (by kernel_rfl) (by kernel_rfl) (fun _ _ _ h => h) (Or.inl ⟨by rfl, fun w hSw => by (try dsimp only at hSw); go_simp⟩) (by assumption) ?_
  try simp only [List.getElem_toArray, List.getElem_cons_zero, List.getElem_cons_succ, Act.put, List.setIfInBounds_toArray, List.set_cons_zero, List.set_cons_succ]
  refine HeldX.wpAnyX_take (i := 4) (v := (.slice A1 ss.length c1)) rfl (by kernel_rfl) (by kernel_rfl) (by kernel_rfl) (fun _ _ _ h => h) (Or.inl ⟨by rfl, fun w hSw => by (try dsimp only at hSw); go_simp⟩) (by assumption) ?_
  try simp only [List.getElem_toArray, List.getElem_cons_zero, List.getElem_cons_succ, Act.put, List.setIfInBounds_toArray, List.set_cons_zero, List.set_cons_succ]
  refine HeldX.wpAnyX_take (i := 7) (v := (.pointer (some ⟨w.heap.size, 2, none⟩))) rfl (by kernel_rfl) (by kernel_rfl) (by kernel_rfl) (fun _ _ _ h => h) (Or.inl ⟨by rfl, fun w hSw => by (try dsimp only at hSw); go_simp⟩) (by assumption) ?_
  try simp only [List.getElem_toArray, List.getElem_cons_zero, List.getElem_cons_succ, Act.put, List.setIfInBounds_toArray, List.set_cons_zero, List.set_cons_succ]
  refine HeldX.wpAnyX_take (i := 8) (v := (.slice A2 os.length c2)) rfl (by kernel_rfl) (by kernel_rfl) (by kernel_rfl) (fun _ _ _ h => h) (Or.inl ⟨by rfl, fun w hSw => by (try dsimp only at hSw); go_simp⟩) (by assumption) ?_
  try simp only [List.getElem_toArray, List.getElem_cons_zero, List.getElem_cons_succ, Act.put, List.setIfInBounds_toArray, List.set_cons_zero, List.set_cons_succ]
  generalize w2.drew = x0 at *
  refine HeldX.wpAnyX_two (i := 2) (j := 6) (by kernel_rfl) rfl rfl (fun K hK => ?_) (fun K hK => ?_)
  · go_simp
    have E11 := row_empty x0 w2.heap.size (BX0.size)
    have BX1 : Below w2.heap.size w2 (x0.alloc (Obj.cells #[] 3)) := Ba BX0
    obtain ⟨g1, hg1⟩ : ∃ g, x0.heap.size = g := ⟨_, rfl⟩
    have sz1 : (x0.alloc (Obj.cells #[] 3)).heap.size = x0.heap.size + 1 := by simp
    rw [hg1] at sz1 E11
    have SZ1 := Lib.hid (And.intro hg1 sz1)
    clear sz1
    refine hK.out _ _ (KP _ BX1) (fun _ => ?_)
    clear hK K
    try rw [hg1]
    clear hg1
    generalize x0.alloc (Obj.cells #[] 3) = x1 at *
    try simp only [List.getElem_toArray, List.getElem_cons_zero, List.getElem_cons_succ, Act.put, List.setIfInBounds_toArray, List.set_cons_zero, List.set_cons_succ]
    refine HeldX.wpAnyX_two (i := 5) (j := 6) (by kernel_rfl) rfl rfl (fun K hK => ?_) (fun K hK => ?_)
    · refine app_step (base := w2.heap.size) rfl (.tmp 5) (.tmp 7) (by rfl) (by rfl) (by rfl) E11 (RS.below (BX1.mono l2)) (by simp; omega) (BX1.size) ?_
      intro v1 x2 R12 F1
      rw [List.nil_append] at R12
      have BX2 : Below w2.heap.size w2 x2 := BX1.grown F1.1 (BX1.size) (fun k hk => (World.ownsRow.lt E11 k hk).1)
      refine hK.out _ _ (KP _ BX2) (fun _ => ?_)
      clear hK K
      obtain ⟨A1', c1', rfl⟩ := R12.slice
      try simp only [List.getElem_toArray, List.getElem_cons_zero, List.getElem_cons_succ, Act.put, List.setIfInBounds_toArray, List.set_cons_zero, List.set_cons_succ]
      refine HeldX.wpAnyX_step (i := 6) (by kernel_rfl) rfl (fun K hK => ?_)
      go_simp
      have E23 := row_empty x2 w2.heap.size (BX2.size)
      have BX3 : Below w2.heap.size w2 (x2.alloc (Obj.cells #[] 3)) := Ba BX2
      obtain ⟨g2, hg2⟩ : ∃ g, x2.heap.size = g := ⟨_, rfl⟩
      have sz3 : (x2.alloc (Obj.cells #[] 3)).heap.size = x2.heap.size + 1 := by simp
      rw [hg2] at sz3 E23
      have SZ3 := Lib.hid (And.intro hg2 sz3)
      clear sz3
      have E13 := InRow.kept E11 (Ba (o := (Obj.cells #[] 3)) B0)
      have R13 := InRow.kept R12 (Ba (o := (Obj.cells #[] 3)) B0)
      refine hK.out _ _ (KP _ BX3) (fun _ => ?_)
      clear hK K
      try rw [hg2]
      clear hg2
      generalize x2.alloc (Obj.cells #[] 3) = x3 at *
      try simp only [List.getElem_toArray, List.getElem_cons_zero, List.getElem_cons_succ, Act.put, List.setIfInBounds_toArray, List.set_cons_zero, List.set_cons_succ]
      refine HeldX.wpAnyX_step (i := 9) (by kernel_rfl) rfl (fun K hK => ?_)
      refine app_step (base := w2.heap.size) rfl (.tmp 9) (.tmp 11) (by rfl) (by rfl) (by rfl) E23 (RO.below (BX3.mono l2)) (by simp; omega) (BX3.size) ?_
      intro v2 x4 R24 F2
      rw [List.nil_append] at R24
      have BX4 : Below w2.heap.size w2 x4 := BX3.grown F2.1 (BX3.size) (fun k hk => (World.ownsRow.lt E23 k hk).1)
      have R14 := kept_two R13 F2 (fun k hk e => by
        have e2 : g2 = k := by (simpa [Value.ownBlock] using e)
        have := SZ1.out
        have := SZ3.out
        have := (World.ownsRow.lt R12 k hk).2
        omega)
      refine hK.out _ _ (KP _ BX4) (fun _ => ?_)
      clear hK K
      obtain ⟨A2', c2', rfl⟩ := R24.slice
      try simp only [List.getElem_toArray, List.getElem_cons_zero, List.getElem_cons_succ, Act.put, List.setIfInBounds_toArray, List.set_cons_zero, List.set_cons_succ]
      refine HeldX.wpAnyX_take (i := 10) (v := (.agg #[.int .i64 e, .slice A1' ss.length c1', .slice A2' os.length c2'])) rfl (by kernel_rfl) (by kernel_rfl) (by kernel_rfl) (fun _ _ _ h => h) (Or.inl ⟨by rfl, fun w hSw => by (try dsimp only at hSw); go_simp⟩) (by assumption) ?_
      try simp only [List.getElem_toArray, List.getElem_cons_zero, List.getElem_cons_succ, Act.put, List.setIfInBounds_toArray, List.set_cons_zero, List.set_cons_succ]
      have bX := bO.keep BX4
      have o0 := bX.cell 0
      have o1 := bX.cell 1
      have o2 := bX.cell 2
      have z0 := bX.frozen 0
      have z1 := bX.frozen 1
      have z2 := bX.frozen 2
      simp at o0 o1 o2
      refine HeldX.wpAnyX_last (i := 11) (by kernel_rfl) (by kernel_rfl) rfl (fun K hK => ?_)
      go_simp
      refine hK.out _ _ ?_
      clear hK K
      go_wp2_with fail
      refine bodyPost_ret (v := .agg #[.int .i64 e, .slice A1' ss.length c1', .slice A2' os.length c2']) (by simp [results, Try.results8, go_sem, o0, o1, o2]) rfl ⟨_, _, rfl, ?_, ?_, ?_⟩
      · exact InRow.mono (ownsRow_setCell_below (ownsRow_setCell_below (ownsRow_setCell_below R14 lO _) lO _) lO _) l2
      · exact InRow.mono (ownsRow_setCell_below (ownsRow_setCell_below (ownsRow_setCell_below R24 lO _) lO _) lO _) l2
      · exact Bs (Bs (Bs (hB2.trans (BX4.mono l2)) lP) lP) lP
    · go_simp
      have E22 := row_empty x1 w2.heap.size (BX1.size)
      have BX2 : Below w2.heap.size w2 (x1.alloc (Obj.cells #[] 3)) := Ba BX1
      obtain ⟨g2, hg2⟩ : ∃ g, x1.heap.size = g := ⟨_, rfl⟩
      have sz2 : (x1.alloc (Obj.cells #[] 3)).heap.size = x1.heap.size + 1 := by simp
      rw [hg2] at sz2 E22
      have SZ2 := Lib.hid (And.intro hg2 sz2)
      clear sz2
      have E12 := InRow.kept E11 (Ba (o := (Obj.cells #[] 3)) B0)
      refine hK.out _ _ (KP _ BX2) (fun _ => ?_)
      clear hK K
      try rw [hg2]
      clear hg2
      generalize x1.alloc (Obj.cells #[] 3) = x2 at *
      try simp only [List.getElem_toArray, List.getElem_cons_zero, List.getElem_cons_succ, Act.put, List.setIfInBounds_toArray, List.set_cons_zero, List.set_cons_succ]
      refine HeldX.wpAnyX_step (i := 5) (by kernel_rfl) rfl (fun K hK => ?_)
      refine app_step (base := w2.heap.size) rfl (.tmp 5) (.tmp 7) (by rfl) (by rfl) (by rfl) E12 (RS.below (BX2.mono l2)) (by simp; omega) (BX2.size) ?_
      intro v1 x3 R13 F1
      rw [List.nil_append] at R13
      have BX3 : Below w2.heap.size w2 x3 := BX2.grown F1.1 (BX2.size) (fun k hk => (World.ownsRow.lt E12 k hk).1)
      have E23 := kept_two E22 F1 (fun k hk e => by
        have e2 : g2 = k := by (simpa [Value.ownBlock] using hk)
        have e1 : g1 = k := by (simpa [Value.ownBlock] using e)
        have := SZ1.out
        have := SZ2.out
        omega)
      refine hK.out _ _ (KP _ BX3) (fun _ => ?_)
      clear hK K
      obtain ⟨A1', c1', rfl⟩ := R13.slice
      try simp only [List.getElem_toArray, List.getElem_cons_zero, List.getElem_cons_succ, Act.put, List.setIfInBounds_toArray, List.set_cons_zero, List.set_cons_succ]
      refine HeldX.wpAnyX_step (i := 9) (by kernel_rfl) rfl (fun K hK => ?_)
      refine app_step (base := w2.heap.size) rfl (.tmp 9) (.tmp 11) (by rfl) (by rfl) (by rfl) E23 (RO.below (BX3.mono l2)) (by simp; omega) (BX3.size) ?_
      intro v2 x4 R24 F2
      rw [List.nil_append] at R24
      have BX4 : Below w2.heap.size w2 x4 := BX3.grown F2.1 (BX3.size) (fun k hk => (World.ownsRow.lt E23 k hk).1)
      have R14 := kept_two R13 F2 (fun k hk e => by
        have e2 : g2 = k := by (simpa [Value.ownBlock] using e)
        have := SZ1.out
        have := SZ2.out
        rcases F1.2 k hk with h | h
        · have e1 : g1 = k := by (simpa [Value.ownBlock] using h)
          omega
        · omega)
      refine hK.out _ _ (KP _ BX4) (fun _ => ?_)
      clear hK K
      obtain ⟨A2', c2', rfl⟩ := R24.slice
      try simp only [List.getElem_toArray, List.getElem_cons_zero, List.getElem_cons_succ, Act.put, List.setIfInBounds_toArray, List.set_cons_zero, List.set_cons_succ]
      refine HeldX.wpAnyX_take (i := 10) (v := (.agg #[.int .i64 e, .slice A1' ss.length c1', .slice A2' os.length c2'])) rfl (by kernel_rfl) (by kernel_rfl) (by kernel_rfl) (fun _ _ _ h => h) (Or.inl ⟨by rfl, fun w hSw => by (try dsimp only at hSw); go_simp⟩) (by assumption) ?_
      try simp only [List.getElem_toArray, List.getElem_cons_zero, List.getElem_cons_succ, Act.put, List.setIfInBounds_toArray, List.set_cons_zero, List.set_cons_succ]
      have bX := bO.keep BX4
      have o0 := bX.cell 0
      have o1 := bX.cell 1
      have o2 := bX.cell 2
      have z0 := bX.frozen 0
      have z1 := bX.frozen 1
      have z2 := bX.frozen 2
      simp at o0 o1 o2
      refine HeldX.wpAnyX_last (i := 11) (by kernel_rfl) (by kernel_rfl) rfl (fun K hK => ?_)
      go_simp
      refine hK.out _ _ ?_
      clear hK K
      go_wp2_with fail
      refine bodyPost_ret (v := .agg #[.int .i64 e, .slice A1' ss.length c1', .slice A2' os.length c2']) (by simp [results, Try.results8, go_sem, o0, o1, o2]) rfl ⟨_, _, rfl, ?_, ?_, ?_⟩
      · exact InRow.mono (ownsRow_setCell_below (ownsRow_setCell_below (ownsRow_setCell_below R14 lO _) lO _) lO _) l2
      · exact InRow.mono (ownsRow_setCell_below (ownsRow_setCell_below (ownsRow_setCell_below R24 lO _) lO _) lO _) l2
      · exact Bs (Bs (Bs (hB2.trans (BX4.mono l2)) lP) lP) lP
  · go_simp
    have E21 := row_empty x0 w2.heap.size (BX0.size)
    have BX1 : Below w2.heap.size w2 (x0.alloc (Obj.cells #[] 3)) := Ba BX0
    obtain ⟨g2, hg2⟩ : ∃ g, x0.heap.size = g := ⟨_, rfl⟩
    have sz1 : (x0.alloc (Obj.cells #[] 3)).heap.size = x0.heap.size + 1 := by simp
    rw [hg2] at sz1 E21
    have SZ1 := Lib.hid (And.intro hg2 sz1)
    clear sz1
    refine hK.out _ _ (KP _ BX1) (fun _ => ?_)
    clear hK K
    try rw [hg2]
    clear hg2
    generalize x0.alloc (Obj.cells #[] 3) = x1 at *
    try simp only [List.getElem_toArray, List.getElem_cons_zero, List.getElem_cons_succ, Act.put, List.setIfInBounds_toArray, List.set_cons_zero, List.set_cons_succ]
    refine HeldX.wpAnyX_step (i := 2) (by kernel_rfl) rfl (fun K hK => ?_)
    go_simp
    have E12 := row_empty x1 w2.heap.size (BX1.size)
    have BX2 : Below w2.heap.size w2 (x1.alloc (Obj.cells #[] 3)) := Ba BX1
    obtain ⟨g1, hg1⟩ : ∃ g, x1.heap.size = g := ⟨_, rfl⟩
    have sz2 : (x1.alloc (Obj.cells #[] 3)).heap.size = x1.heap.size + 1 := by simp
    rw [hg1] at sz2 E12
    have SZ2 := Lib.hid (And.intro hg1 sz2)
    clear sz2
    have E22 := InRow.kept E21 (Ba (o := (Obj.cells #[] 3)) B0)
    refine hK.out _ _ (KP _ BX2) (fun _ => ?_)
    clear hK K
    try rw [hg1]
    clear hg1
    generalize x1.alloc (Obj.cells #[] 3) = x2 at *
    try simp only [List.getElem_toArray, List.getElem_cons_zero, List.getElem_cons_succ, Act.put, List.setIfInBounds_toArray, List.set_cons_zero, List.set_cons_succ]
    refine HeldX.wpAnyX_step (i := 5) (by kernel_rfl) rfl (fun K hK => ?_)
    refine app_step (base := w2.heap.size) rfl (.tmp 5) (.tmp 7) (by rfl) (by rfl) (by rfl) E12 (RS.below (BX2.mono l2)) (by simp; omega) (BX2.size) ?_
    intro v1 x3 R13 F1
    rw [List.nil_append] at R13
    have BX3 : Below w2.heap.size w2 x3 := BX2.grown F1.1 (BX2.size) (fun k hk => (World.ownsRow.lt E12 k hk).1)
    have E23 := kept_two E22 F1 (fun k hk e => by
      have e2 : g2 = k := by (simpa [Value.ownBlock] using hk)
      have e1 : g1 = k := by (simpa [Value.ownBlock] using e)
      have := SZ1.out
      have := SZ2.out
      omega)
    refine hK.out _ _ (KP _ BX3) (fun _ => ?_)
    clear hK K
    obtain ⟨A1', c1', rfl⟩ := R13.slice
    try simp only [List.getElem_toArray, List.getElem_cons_zero, List.getElem_cons_succ, Act.put, List.setIfInBounds_toArray, List.set_cons_zero, List.set_cons_succ]
    refine HeldX.wpAnyX_step (i := 9) (by kernel_rfl) rfl (fun K hK => ?_)
    refine app_step (base := w2.heap.size) rfl (.tmp 9) (.tmp 11) (by rfl) (by rfl) (by rfl) E23 (RO.below (BX3.mono l2)) (by simp; omega) (BX3.size) ?_
    intro v2 x4 R24 F2
    rw [List.nil_append] at R24
    have BX4 : Below w2.heap.size w2 x4 := BX3.grown F2.1 (BX3.size) (fun k hk => (World.ownsRow.lt E23 k hk).1)
    have R14 := kept_two R13 F2 (fun k hk e => by
      have e2 : g2 = k := by (simpa [Value.ownBlock] using e)
      have := SZ1.out
      have := SZ2.out
      rcases F1.2 k hk with h | h
      · have e1 : g1 = k := by (simpa [Value.ownBlock] using h)
        omega
      · omega)
    refine hK.out _ _ (KP _ BX4) (fun _ => ?_)
    clear hK K
    obtain ⟨A2', c2', rfl⟩ := R24.slice
    try simp only [List.getElem_toArray, List.getElem_cons_zero, List.getElem_cons_succ, Act.put, List.setIfInBounds_toArray, List.set_cons_zero, List.set_cons_succ]
    refine HeldX.wpAnyX_take (i := 10) (v := (.agg #[.int .i64 e, .slice A1' ss.length c1', .slice A2' os.length c2'])) rfl (by kernel_rfl) (by kernel_rfl) (by kernel_rfl) (fun _ _ _ h => h) (Or.inl ⟨by rfl, fun w hSw => by (try dsimp only at hSw); go_simp⟩) (by assumption) ?_
    try simp only [List.getElem_toArray, List.getElem_cons_zero, List.getElem_cons_succ, Act.put, List.setIfInBounds_toArray, List.set_cons_zero, List.set_cons_succ]
    have bX := bO.keep BX4
    have o0 := bX.cell 0
    have o1 := bX.cell 1
    have o2 := bX.cell 2
    have z0 := bX.frozen 0
    have z1 := bX.frozen 1
    have z2 := bX.frozen 2
    simp at o0 o1 o2
    refine HeldX.wpAnyX_last (i := 11) (by kernel_rfl) (by kernel_rfl) rfl (fun K hK => ?_)
    go_simp
    refine hK.out _ _ ?_
    clear hK K
    go_wp2_with fail
    refine bodyPost_ret (v := .agg #[.int .i64 e, .slice A1' ss.length c1', .slice A2' os.length c2']) (by simp [results, Try.results8, go_sem, o0, o1, o2]) rfl ⟨_, _, rfl, ?_, ?_, ?_⟩
    · exact InRow.mono (ownsRow_setCell_below (ownsRow_setCell_below (ownsRow_setCell_below R14 lO _) lO _) lO _) l2
    · exact InRow.mono (ownsRow_setCell_below (ownsRow_setCell_below (ownsRow_setCell_below R24 lO _) lO _) lO _) l2
    · exact Bs (Bs (Bs (hB2.trans (BX4.mono l2)) lP) lP) lP
end Go.Proofs.Ytbgkkpfhjggbkaa.IntW
