/-
  The walk of the program's own changed (written by tools/gen/mapchanged.py).
-/
import Derived.Test.YtbgkkpfhjggbkaaMapOwnD
import Derived.Test.YtbgkkpfhjggbkaaMapCopy
import Derived.Test.YtbgkkpfhjggbkaaMapFst
namespace Go.Proofs.Ytbgkkpfhjggbkaa.IntW
open Go.RowKit WideW CovW
set_option linter.all false

/-- What a change makes of a map's starts and owners, in stretch i. -/
def newS (kind : Int) (i : Nat) (a : Int) (ss : List Int) : List Int := if kind = 0 then ss.take (i + 1) ++ a :: ss.drop (i + 1) else if kind = 1 then ss else ss.take (i + 1) ++ ss.drop (i + 2)
def newO (kind : Int) (i : Nat) (tn : Int) (os : List Int) : List Int := if kind = 0 then os.take (i + 1) ++ it os i :: os.drop (i + 1) else if kind = 1 then os.set i tn else os.take (i + 1) ++ os.drop (i + 2)

/-- A new map of the call's own, in block g: its two rows are parted from each other and from it. -/
def NewMap (W : World) (B g : Nat) (e : Int) (v1 v2 : Value) (ss os : List Int) : Prop :=
  Blk W g 24 #[.int .i64 e, v1, v2] ∧ InRow W B v1 ss ∧ InRow W B v2 os ∧ (∀ k, v1.ownBlock = some k → v2.ownBlock ≠ some k) ∧ B ≤ g ∧ (∀ k, v1.ownBlock = some k → k ≠ g) ∧ (∀ k, v2.ownBlock = some k → k ≠ g)
theorem row_far {w : World} {base g : Nat} {v : Value} {l : List Int} (h : InRow w base v l) (hg : ∀ p, v.ownBlock = some p → p ≠ g) (i : Nat) (u : Value) : InRow (w.setCell ⟨g, i, none⟩ u) base v l :=
  World.ownsRow.kept h (grown_set w g i u) (by
    cases hv : v.ownBlock with
    | none => exact .inl rfl
    | some k => exact .inr (fun e => hg k hv (by simpa using e)))
section
variable {W W' : World} {B g : Nat} {e : Int} {v1 v2 v' : Value} {ss os l : List Int}
/-- The first row was turned, and is stored. -/
theorem NewMap.setS (h : NewMap W B g e v1 v2 ss os) (F : Frm W W' v1 v') (R : InRow W' B v' l) : NewMap (W'.setCell ⟨g, 1, none⟩ v') B g e v' v2 l os := by
  obtain ⟨b, r1, r2, d, hg, n1, n2⟩ := h
  have b' := b.grown F.1 (fun x => n1 g x.symm rfl)
  have n1' : ∀ k, v'.ownBlock = some k → k ≠ g := fun k hk => by
    rcases F.2 k hk with x | x
    · exact n1 k x
    · have := b.lt; omega
  have d' : ∀ k, v'.ownBlock = some k → v2.ownBlock ≠ some k := fun k hk => by
    rcases F.2 k hk with x | x
    · exact d k x
    · intro y
      have := (World.ownsRow.lt r2 k y).2
      omega
  have r2' := kept_two r2 F (fun k hk x => d k x hk)
  refine ⟨by simpa using b'.set_ 1 v', row_far R n1' 1 v', row_far r2' n2 1 v', d', hg, n1', n2⟩
theorem NewMap.setO (h : NewMap W B g e v1 v2 ss os) (F : Frm W W' v2 v') (R : InRow W' B v' l) : NewMap (W'.setCell ⟨g, 2, none⟩ v') B g e v1 v' ss l := by
  obtain ⟨b, r1, r2, d, hg, n1, n2⟩ := h
  have b' := b.grown F.1 (fun x => n2 g x.symm rfl)
  have n2' : ∀ k, v'.ownBlock = some k → k ≠ g := fun k hk => by
    rcases F.2 k hk with x | x
    · exact n2 k x
    · have := b.lt; omega
  have d' : ∀ k, v1.ownBlock = some k → v'.ownBlock ≠ some k := fun k hk y => by
    rcases F.2 k y with x | x
    · exact d k hk x
    · have := (World.ownsRow.lt r1 k hk).2
      omega
  have r1' := kept_two r1 F (fun k hk x => d k hk x)
  refine ⟨by simpa using b'.set_ 2 v', row_far r1' n1 2 v', row_far R n2' 2 v', d', hg, n1, n2'⟩
theorem NewMap.below (h : NewMap W B g e v1 v2 ss os) {w : World} (hb : Below B w W) (hB : B ≤ W.heap.size) (F : Frm W W' v1 v') (i : Nat) (u : Value) : Below B w (W'.setCell ⟨g, i, none⟩ u) :=
  (hb.grown F.1 hB (fun k hk => (World.ownsRow.lt h.2.1 k hk).1)).setCell (p := ⟨g, i, none⟩) h.2.2.2.2.1 u
theorem NewMap.below' (h : NewMap W B g e v1 v2 ss os) {w : World} (hb : Below B w W) (hB : B ≤ W.heap.size) (F : Frm W W' v2 v') (i : Nat) (u : Value) : Below B w (W'.setCell ⟨g, i, none⟩ u) :=
  (hb.grown F.1 hB (fun k hk => (World.ownsRow.lt h.2.2.1 k hk).1)).setCell (p := ⟨g, i, none⟩) h.2.2.2.2.1 u
theorem NewMap.put {b c : Nat} (h : NewMap W B g e v1 (.slice (some ⟨b, 0, none⟩) os.length c) ss os) {w : World} (hb : Below B w W) (i : Nat) (x : Int) : NewMap (W.setCell ⟨b, i, none⟩ (.int .i64 x)) B g e v1 (.slice (some ⟨b, 0, none⟩) os.length c) ss (os.set i x) ∧ Below B w (W.setCell ⟨b, i, none⟩ (.int .i64 x)) := by
  obtain ⟨k, r1, r2, d, hg, n1, n2⟩ := h
  have hbB := (World.ownsRow.lt r2 b rfl).1
  have hne := n2 b rfl
  refine ⟨⟨k.far (p := ⟨b, i, none⟩) (fun x => hne x.symm) _, row_far r1 (fun p hp x => d p hp (by rw [x]; rfl)) i _, (r2.put i x).1, d, hg, n1, n2⟩, hb.setCell (p := ⟨b, i, none⟩) hbB _⟩
end
def SepV (v1 v2 : Value) : Prop := ∀ k, v1.ownBlock = some k → v2.ownBlock ≠ some k

set_option maxRecDepth 100000 in
set_option maxHeartbeats 4000000 in
theorem changed_any (m : Int) (vs vo : Value) (ss os : List Int) (kind a tn : Int) (i : Nat) (w : World) (hs : RdI w w.heap.size vs ss) (ho : RdI w w.heap.size vo os) (l1 : ss.length ≤ 1000) (l2 : os.length = ss.length) (hi : i < ss.length) (hj : kind = 2 → i + 1 < ss.length) (hm : 0 ≤ m ∧ m ≤ 65535) (hk : 0 ≤ kind ∧ kind ≤ 2) :
    Calls Try.prog 38 #[.agg #[.int .i64 m, vs, vo], .agg #[.int .i64 kind, .int .i64 a, .int .i64 tn], .int .i64 i] w fun x w' => ∃ v1 v2, x = .returned (.agg #[.int .i64 (m + 1), v1, v2]) ∧ InRow w' w.heap.size v1 (newS kind i a ss) ∧ InRow w' w.heap.size v2 (newO kind i tn os) ∧ SepV v1 v2 ∧ Below w.heap.size w w' := by
  obtain ⟨A1, c1, rfl, -⟩ := id hs
  obtain ⟨A2, c2, rfl, -⟩ := id ho
  obtain ⟨w2, hw2⟩ : ∃ w2, ((w.alloc (.cells #[.int .i64 m, .slice A1 ss.length c1, .slice A2 os.length c2] 24)).alloc (.cells #[.int .i64 kind, .int .i64 a, .int .i64 tn] 27)).alloc (.cells #[.int .i64 0, .slice none 0 0, .slice none 0 0] 24) = w2 := ⟨_, rfl⟩
  have hB2 : Below w.heap.size w w2 := by rw [← hw2]; exact Ba (Ba (Ba B0))
  have bM : Blk w2 w.heap.size 24 #[.int .i64 m, .slice A1 ss.length c1, .slice A2 os.length c2] := by rw [← hw2]; exact Blk.alloc (Blk.alloc (Blk.new _ _ _) _) _
  have bC : Blk w2 (w.heap.size + 1) 27 #[.int .i64 kind, .int .i64 a, .int .i64 tn] := by rw [← hw2]; exact Blk.alloc (Blk.new' _ _ _ (by simp)) _
  have bO : Blk w2 (w.heap.size + 1 + 1) 24 #[.int .i64 0, .slice none 0 0, .slice none 0 0] := by rw [← hw2]; exact Blk.new' _ _ _ (by simp)
  have n2 : w2.heap.size = w.heap.size + 3 := by rw [← hw2]; simp
  have RS := hs.on hB2
  have RO := ho.on hB2
  have f0 := bM.cell 0
  have f1 := bM.cell 1
  have f2 := bM.cell 2
  simp at f0 f1 f2
  have KP : ∀ x, Below w2.heap.size w2 x → x.cell? ⟨w.heap.size, 0, none⟩ = some (.int .i64 m) ∧ x.cell? ⟨w.heap.size, 1, none⟩ = some (.slice A1 ss.length c1) ∧ x.cell? ⟨w.heap.size, 2, none⟩ = some (.slice A2 os.length c2) := fun x hb => ⟨cell_keep hb f0, cell_keep hb f1, cell_keep hb f2⟩
  have BX0 : Below w2.heap.size w2 w2.drew := Bd B0
  have HW2 := Lib.hid hw2
  have HL := Lib.hid (And.intro hi (And.intro l1 l2))
  have HI1 : IntKind.i64.wrap ((i : Int) + 1) = (i : Int) + 1 := by rw [IntKind.wrap_i64]; omega
  have HM : IntKind.i64.wrap (m + 1) = m + 1 := by rw [IntKind.wrap_i64]; omega
  have hcase : kind = 0 ∨ kind = 1 ∨ kind = 2 := by omega
  have HK := Lib.hid (And.intro hj hcase)
  have hi9 : i ≤ 1000 := by omega
  clear hw2 hs ho l1 l2 hm hi hj hk hcase
  go_enter Try.func38, Try.ntmps38
  go_upto_region 1 with fail
  rw [HW2.out]
  clear HW2
  go_cut [7] (fun s wx => ∃ g v1 v2, s = .pointer (some ⟨g, 0, none⟩) ∧ NewMap wx w2.heap.size g (m + 1) v1 v2 ss os ∧ Below w2.heap.size w2 wx)
  case first =>
    refine HeldX.wp_region_X (S := (fun w' => w'.cell? ⟨w.heap.size, 0, none⟩ = some (.int .i64 m) ∧ w'.cell? ⟨w.heap.size, 1, none⟩ = some (.slice A1 ss.length c1) ∧ w'.cell? ⟨w.heap.size, 2, none⟩ = some (.slice A2 os.length c2))) (by kernel_rfl) ⟨f0, f1, f2⟩ (fun hHeld => ?_)
    refine HeldX.wpAnyX_take (i := 0) (v := (.pointer (some ⟨w.heap.size, 0, none⟩))) rfl (by kernel_rfl) (by kernel_rfl) (by kernel_rfl) (fun _ _ _ h => h) (Or.inl ⟨by rfl, fun w hSw => by (try dsimp only at hSw); go_simp⟩) (by assumption) ?_
    try simp only [List.getElem_toArray, List.getElem_cons_zero, List.getElem_cons_succ, Act.put, List.setIfInBounds_toArray, List.set_cons_zero, List.set_cons_succ]
    refine HeldX.wpAnyX_take (i := 1) (v := (.int .i64 m)) rfl (by kernel_rfl) (by kernel_rfl) (by kernel_rfl) (fun _ _ _ h => h) (Or.inl ⟨by rfl, fun w hSw => by (try dsimp only at hSw); go_simp⟩) (by assumption) ?_
    try simp only [List.getElem_toArray, List.getElem_cons_zero, List.getElem_cons_succ, Act.put, List.setIfInBounds_toArray, List.set_cons_zero, List.set_cons_succ]
    refine HeldX.wpAnyX_take (i := 2) (v := (.int .i64 (m + 1))) rfl (by kernel_rfl) (by kernel_rfl) (by kernel_rfl) (fun _ _ _ h => h) (Or.inl ⟨by rfl, fun w hSw => by (try dsimp only at hSw); go_simp⟩) (by assumption) ?_
    try simp only [List.getElem_toArray, List.getElem_cons_zero, List.getElem_cons_succ, Act.put, List.setIfInBounds_toArray, List.set_cons_zero, List.set_cons_succ]
    refine HeldX.wpAnyX_take (i := 3) (v := (.pointer (some ⟨w.heap.size, 1, none⟩))) rfl (by kernel_rfl) (by kernel_rfl) (by kernel_rfl) (fun _ _ _ h => h) (Or.inl ⟨by rfl, fun w hSw => by (try dsimp only at hSw); go_simp⟩) (by assumption) ?_
    try simp only [List.getElem_toArray, List.getElem_cons_zero, List.getElem_cons_succ, Act.put, List.setIfInBounds_toArray, List.set_cons_zero, List.set_cons_succ]
    refine HeldX.wpAnyX_take (i := 4) (v := (.slice A1 ss.length c1)) rfl (by kernel_rfl) (by kernel_rfl) (by kernel_rfl) (fun _ _ _ h => h) (Or.inl ⟨by rfl, fun w hSw => by (try dsimp only at hSw); go_simp⟩) (by assumption) ?_
    try simp only [List.getElem_toArray, List.getElem_cons_zero, List.getElem_cons_succ, Act.put, List.setIfInBounds_toArray, List.set_cons_zero, List.set_cons_succ]
    refine HeldX.wpAnyX_take (i := 6) (v := (.pointer (some ⟨w.heap.size, 2, none⟩))) rfl (by kernel_rfl) (by kernel_rfl) (by kernel_rfl) (fun _ _ _ h => h) (Or.inl ⟨by rfl, fun w hSw => by (try dsimp only at hSw); go_simp⟩) (by assumption) ?_
    try simp only [List.getElem_toArray, List.getElem_cons_zero, List.getElem_cons_succ, Act.put, List.setIfInBounds_toArray, List.set_cons_zero, List.set_cons_succ]
    refine HeldX.wpAnyX_take (i := 7) (v := (.slice A2 os.length c2)) rfl (by kernel_rfl) (by kernel_rfl) (by kernel_rfl) (fun _ _ _ h => h) (Or.inl ⟨by rfl, fun w hSw => by (try dsimp only at hSw); go_simp⟩) (by assumption) ?_
    try simp only [List.getElem_toArray, List.getElem_cons_zero, List.getElem_cons_succ, Act.put, List.setIfInBounds_toArray, List.set_cons_zero, List.set_cons_succ]
    generalize w2.drew = x0 at *
    refine HeldX.wpAnyX_two (i := 5) (j := 10) (by kernel_rfl) rfl rfl (fun K hK => ?_) (fun K hK => ?_)
    · go_simp
      refine (clone_any _ ss x0 (RS.on BX0) (by have := HL.out; omega) (by have := HL.out; omega)).mono ?_
      rintro e x1 ⟨v1, rfl, R11, hb1⟩
      have BX1 := Bt BX0 hb1
      replace R11 := InRow.mono R11 (BX0.size)
      refine hK.out _ _ (KP _ BX1) (fun _ => ?_)
      clear hK K
      obtain ⟨A1', c1', rfl⟩ := R11.slice
      try simp only [List.getElem_toArray, List.getElem_cons_zero, List.getElem_cons_succ, Act.put, List.setIfInBounds_toArray, List.set_cons_zero, List.set_cons_succ]
      refine HeldX.wpAnyX_two (i := 8) (j := 10) (by kernel_rfl) rfl rfl (fun K hK => ?_) (fun K hK => ?_)
      · go_simp
        refine (clone_any _ os x1 (RO.on BX1) (by have := HL.out; omega) (by have := HL.out; omega)).mono ?_
        rintro e x2 ⟨v2, rfl, R22, hb2⟩
        have BX2 := Bt BX1 hb2
        have R12 := InRow.kept R11 hb2
        have D12 : ∀ p, (Value.slice A1' ss.length c1').ownBlock = some p → v2.ownBlock ≠ some p := fun p h1 h2 => by have := (World.ownsRow.lt R11 p h1).2; have := (World.ownsRow.lt R22 p h2).1; omega
        replace R22 := InRow.mono R22 (BX1.size)
        refine hK.out _ _ (KP _ BX2) (fun _ => ?_)
        clear hK K
        obtain ⟨A2', c2', rfl⟩ := R22.slice
        try simp only [List.getElem_toArray, List.getElem_cons_zero, List.getElem_cons_succ, Act.put, List.setIfInBounds_toArray, List.set_cons_zero, List.set_cons_succ]
        refine HeldX.wpAnyX_take (i := 9) (v := (.agg #[.int .i64 (m + 1), .slice A1' ss.length c1', .slice A2' os.length c2'])) rfl (by kernel_rfl) (by kernel_rfl) (by kernel_rfl) (fun _ _ _ h => h) (Or.inl ⟨by rfl, fun w hSw => by (try dsimp only at hSw); go_simp⟩) (by assumption) ?_
        try simp only [List.getElem_toArray, List.getElem_cons_zero, List.getElem_cons_succ, Act.put, List.setIfInBounds_toArray, List.set_cons_zero, List.set_cons_succ]
        refine HeldX.wpAnyX_step (i := 10) (by kernel_rfl) rfl (fun K hK => ?_)
        go_simp
        have BX3 : Below w2.heap.size w2 (x2.alloc (Obj.cells #[.int .i64 0, .slice none 0 0, .slice none 0 0] 24)) := Ba BX2
        have bN3 := Blk.new x2 24 #[.int .i64 0, .slice none 0 0, .slice none 0 0]
        have lN := BX2.size
        obtain ⟨gN, hgN⟩ : ∃ g, x2.heap.size = g := ⟨_, rfl⟩
        have sz : (x2.alloc (Obj.cells #[.int .i64 0, .slice none 0 0, .slice none 0 0] 24)).heap.size = x2.heap.size + 1 := by simp
        rw [hgN] at sz lN bN3
        have HSZ := Lib.hid sz
        clear sz
        have lt1 := fun p hp => Nat.ne_of_lt (Nat.lt_of_lt_of_eq (World.ownsRow.lt R12 p hp).2 hgN)
        have R13 := InRow.kept R12 (Ba (o := (Obj.cells #[.int .i64 0, .slice none 0 0, .slice none 0 0] 24)) B0)
        have lt2 := fun p hp => Nat.ne_of_lt (Nat.lt_of_lt_of_eq (World.ownsRow.lt R22 p hp).2 hgN)
        have R23 := InRow.kept R22 (Ba (o := (Obj.cells #[.int .i64 0, .slice none 0 0, .slice none 0 0] 24)) B0)
        refine hK.out _ _ (KP _ BX3) (fun _ => ?_)
        clear hK K
        try rw [hgN]
        have HGN := Lib.hid hgN
        clear hgN
        generalize x2.alloc (Obj.cells #[.int .i64 0, .slice none 0 0, .slice none 0 0] 24) = x3 at *
        try simp only [List.getElem_toArray, List.getElem_cons_zero, List.getElem_cons_succ, Act.put, List.setIfInBounds_toArray, List.set_cons_zero, List.set_cons_succ]
        refine HeldX.wpAnyX_last (i := 11) (by kernel_rfl) (by kernel_rfl) rfl (fun K hK => ?_)
        have z0 := bN3.frozen 0
        have z1 := bN3.frozen 1
        have z2 := bN3.frozen 2
        have o0 := bN3.cell 0
        have o1 := bN3.cell 1
        have o2 := bN3.cell 2
        simp at o0 o1 o2
        have bZ := ((bN3.set_ 0 (.int .i64 (m + 1))).set_ 1 (.slice A1' ss.length c1')).set_ 2 (.slice A2' os.length c2')
        simp at bZ
        have BZ := Below.setCell (Below.setCell (Below.setCell BX3 (p := ⟨gN, 0, none⟩) lN (.int .i64 (m + 1))) (p := ⟨gN, 1, none⟩) lN (.slice A1' ss.length c1')) (p := ⟨gN, 2, none⟩) lN (.slice A2' os.length c2')
        have RZ1 := row_far (row_far (row_far R13 (fun p hp => lt1 p hp) 0 (.int .i64 (m + 1))) (fun p hp => lt1 p hp) 1 (.slice A1' ss.length c1')) (fun p hp => lt1 p hp) 2 (.slice A2' os.length c2')
        have RZ2 := row_far (row_far (row_far R23 (fun p hp => lt2 p hp) 0 (.int .i64 (m + 1))) (fun p hp => lt2 p hp) 1 (.slice A1' ss.length c1')) (fun p hp => lt2 p hp) 2 (.slice A2' os.length c2')
        go_simp
        refine hK.out _ _ ?_
        clear hK K
        go_wp2_with fail
        go_meet
        exact ⟨gN, _, _, rfl, ⟨bZ, RZ1, RZ2, D12, lN, lt1, lt2⟩, BZ⟩
      · go_simp
        have BX2 : Below w2.heap.size w2 (x1.alloc (Obj.cells #[.int .i64 0, .slice none 0 0, .slice none 0 0] 24)) := Ba BX1
        have bN2 := Blk.new x1 24 #[.int .i64 0, .slice none 0 0, .slice none 0 0]
        have lN := BX1.size
        obtain ⟨gN, hgN⟩ : ∃ g, x1.heap.size = g := ⟨_, rfl⟩
        have sz : (x1.alloc (Obj.cells #[.int .i64 0, .slice none 0 0, .slice none 0 0] 24)).heap.size = x1.heap.size + 1 := by simp
        rw [hgN] at sz lN bN2
        have HSZ := Lib.hid sz
        clear sz
        have lt1 := fun p hp => Nat.ne_of_lt (Nat.lt_of_lt_of_eq (World.ownsRow.lt R11 p hp).2 hgN)
        have R12 := InRow.kept R11 (Ba (o := (Obj.cells #[.int .i64 0, .slice none 0 0, .slice none 0 0] 24)) B0)
        refine hK.out _ _ (KP _ BX2) (fun _ => ?_)
        clear hK K
        try rw [hgN]
        have HGN := Lib.hid hgN
        clear hgN
        generalize x1.alloc (Obj.cells #[.int .i64 0, .slice none 0 0, .slice none 0 0] 24) = x2 at *
        try simp only [List.getElem_toArray, List.getElem_cons_zero, List.getElem_cons_succ, Act.put, List.setIfInBounds_toArray, List.set_cons_zero, List.set_cons_succ]
        refine HeldX.wpAnyX_step (i := 8) (by kernel_rfl) rfl (fun K hK => ?_)
        go_simp
        refine (clone_any _ os x2 (RO.on BX2) (by have := HL.out; omega) (by have := HL.out; omega)).mono ?_
        rintro e x3 ⟨v2, rfl, R23, hb3⟩
        have BX3 := Bt BX2 hb3
        have R13 := InRow.kept R12 hb3
        have D12 : ∀ p, (Value.slice A1' ss.length c1').ownBlock = some p → v2.ownBlock ≠ some p := fun p h1 h2 => by have := (World.ownsRow.lt R12 p h1).2; have := (World.ownsRow.lt R23 p h2).1; omega
        have lt2 := fun p hp => Ne.symm (Nat.ne_of_lt (Nat.lt_of_lt_of_le bN2.lt (World.ownsRow.lt R23 p hp).1))
        have bN3 := bN2.keep hb3
        replace R23 := InRow.mono R23 (BX2.size)
        refine hK.out _ _ (KP _ BX3) (fun _ => ?_)
        clear hK K
        obtain ⟨A2', c2', rfl⟩ := R23.slice
        try simp only [List.getElem_toArray, List.getElem_cons_zero, List.getElem_cons_succ, Act.put, List.setIfInBounds_toArray, List.set_cons_zero, List.set_cons_succ]
        refine HeldX.wpAnyX_take (i := 9) (v := (.agg #[.int .i64 (m + 1), .slice A1' ss.length c1', .slice A2' os.length c2'])) rfl (by kernel_rfl) (by kernel_rfl) (by kernel_rfl) (fun _ _ _ h => h) (Or.inl ⟨by rfl, fun w hSw => by (try dsimp only at hSw); go_simp⟩) (by assumption) ?_
        try simp only [List.getElem_toArray, List.getElem_cons_zero, List.getElem_cons_succ, Act.put, List.setIfInBounds_toArray, List.set_cons_zero, List.set_cons_succ]
        refine HeldX.wpAnyX_last (i := 11) (by kernel_rfl) (by kernel_rfl) rfl (fun K hK => ?_)
        have z0 := bN3.frozen 0
        have z1 := bN3.frozen 1
        have z2 := bN3.frozen 2
        have o0 := bN3.cell 0
        have o1 := bN3.cell 1
        have o2 := bN3.cell 2
        simp at o0 o1 o2
        have bZ := ((bN3.set_ 0 (.int .i64 (m + 1))).set_ 1 (.slice A1' ss.length c1')).set_ 2 (.slice A2' os.length c2')
        simp at bZ
        have BZ := Below.setCell (Below.setCell (Below.setCell BX3 (p := ⟨gN, 0, none⟩) lN (.int .i64 (m + 1))) (p := ⟨gN, 1, none⟩) lN (.slice A1' ss.length c1')) (p := ⟨gN, 2, none⟩) lN (.slice A2' os.length c2')
        have RZ1 := row_far (row_far (row_far R13 (fun p hp => lt1 p hp) 0 (.int .i64 (m + 1))) (fun p hp => lt1 p hp) 1 (.slice A1' ss.length c1')) (fun p hp => lt1 p hp) 2 (.slice A2' os.length c2')
        have RZ2 := row_far (row_far (row_far R23 (fun p hp => lt2 p hp) 0 (.int .i64 (m + 1))) (fun p hp => lt2 p hp) 1 (.slice A1' ss.length c1')) (fun p hp => lt2 p hp) 2 (.slice A2' os.length c2')
        go_simp
        refine hK.out _ _ ?_
        clear hK K
        go_wp2_with fail
        go_meet
        exact ⟨gN, _, _, rfl, ⟨bZ, RZ1, RZ2, D12, lN, lt1, lt2⟩, BZ⟩
    · go_simp
      have BX1 : Below w2.heap.size w2 (x0.alloc (Obj.cells #[.int .i64 0, .slice none 0 0, .slice none 0 0] 24)) := Ba BX0
      have bN1 := Blk.new x0 24 #[.int .i64 0, .slice none 0 0, .slice none 0 0]
      have lN := BX0.size
      obtain ⟨gN, hgN⟩ : ∃ g, x0.heap.size = g := ⟨_, rfl⟩
      have sz : (x0.alloc (Obj.cells #[.int .i64 0, .slice none 0 0, .slice none 0 0] 24)).heap.size = x0.heap.size + 1 := by simp
      rw [hgN] at sz lN bN1
      have HSZ := Lib.hid sz
      clear sz
      refine hK.out _ _ (KP _ BX1) (fun _ => ?_)
      clear hK K
      try rw [hgN]
      have HGN := Lib.hid hgN
      clear hgN
      generalize x0.alloc (Obj.cells #[.int .i64 0, .slice none 0 0, .slice none 0 0] 24) = x1 at *
      try simp only [List.getElem_toArray, List.getElem_cons_zero, List.getElem_cons_succ, Act.put, List.setIfInBounds_toArray, List.set_cons_zero, List.set_cons_succ]
      refine HeldX.wpAnyX_step (i := 5) (by kernel_rfl) rfl (fun K hK => ?_)
      go_simp
      refine (clone_any _ ss x1 (RS.on BX1) (by have := HL.out; omega) (by have := HL.out; omega)).mono ?_
      rintro e x2 ⟨v1, rfl, R12, hb2⟩
      have BX2 := Bt BX1 hb2
      have lt1 := fun p hp => Ne.symm (Nat.ne_of_lt (Nat.lt_of_lt_of_le bN1.lt (World.ownsRow.lt R12 p hp).1))
      have bN2 := bN1.keep hb2
      replace R12 := InRow.mono R12 (BX1.size)
      refine hK.out _ _ (KP _ BX2) (fun _ => ?_)
      clear hK K
      obtain ⟨A1', c1', rfl⟩ := R12.slice
      try simp only [List.getElem_toArray, List.getElem_cons_zero, List.getElem_cons_succ, Act.put, List.setIfInBounds_toArray, List.set_cons_zero, List.set_cons_succ]
      refine HeldX.wpAnyX_step (i := 8) (by kernel_rfl) rfl (fun K hK => ?_)
      go_simp
      refine (clone_any _ os x2 (RO.on BX2) (by have := HL.out; omega) (by have := HL.out; omega)).mono ?_
      rintro e x3 ⟨v2, rfl, R23, hb3⟩
      have BX3 := Bt BX2 hb3
      have R13 := InRow.kept R12 hb3
      have D12 : ∀ p, (Value.slice A1' ss.length c1').ownBlock = some p → v2.ownBlock ≠ some p := fun p h1 h2 => by have := (World.ownsRow.lt R12 p h1).2; have := (World.ownsRow.lt R23 p h2).1; omega
      have lt2 := fun p hp => Ne.symm (Nat.ne_of_lt (Nat.lt_of_lt_of_le bN2.lt (World.ownsRow.lt R23 p hp).1))
      have bN3 := bN2.keep hb3
      replace R23 := InRow.mono R23 (BX2.size)
      refine hK.out _ _ (KP _ BX3) (fun _ => ?_)
      clear hK K
      obtain ⟨A2', c2', rfl⟩ := R23.slice
      try simp only [List.getElem_toArray, List.getElem_cons_zero, List.getElem_cons_succ, Act.put, List.setIfInBounds_toArray, List.set_cons_zero, List.set_cons_succ]
      refine HeldX.wpAnyX_take (i := 9) (v := (.agg #[.int .i64 (m + 1), .slice A1' ss.length c1', .slice A2' os.length c2'])) rfl (by kernel_rfl) (by kernel_rfl) (by kernel_rfl) (fun _ _ _ h => h) (Or.inl ⟨by rfl, fun w hSw => by (try dsimp only at hSw); go_simp⟩) (by assumption) ?_
      try simp only [List.getElem_toArray, List.getElem_cons_zero, List.getElem_cons_succ, Act.put, List.setIfInBounds_toArray, List.set_cons_zero, List.set_cons_succ]
      refine HeldX.wpAnyX_last (i := 11) (by kernel_rfl) (by kernel_rfl) rfl (fun K hK => ?_)
      have z0 := bN3.frozen 0
      have z1 := bN3.frozen 1
      have z2 := bN3.frozen 2
      have o0 := bN3.cell 0
      have o1 := bN3.cell 1
      have o2 := bN3.cell 2
      simp at o0 o1 o2
      have bZ := ((bN3.set_ 0 (.int .i64 (m + 1))).set_ 1 (.slice A1' ss.length c1')).set_ 2 (.slice A2' os.length c2')
      simp at bZ
      have BZ := Below.setCell (Below.setCell (Below.setCell BX3 (p := ⟨gN, 0, none⟩) lN (.int .i64 (m + 1))) (p := ⟨gN, 1, none⟩) lN (.slice A1' ss.length c1')) (p := ⟨gN, 2, none⟩) lN (.slice A2' os.length c2')
      have RZ1 := row_far (row_far (row_far R13 (fun p hp => lt1 p hp) 0 (.int .i64 (m + 1))) (fun p hp => lt1 p hp) 1 (.slice A1' ss.length c1')) (fun p hp => lt1 p hp) 2 (.slice A2' os.length c2')
      have RZ2 := row_far (row_far (row_far R23 (fun p hp => lt2 p hp) 0 (.int .i64 (m + 1))) (fun p hp => lt2 p hp) 1 (.slice A1' ss.length c1')) (fun p hp => lt2 p hp) 2 (.slice A2' os.length c2')
      go_simp
      refine hK.out _ _ ?_
      clear hK K
      go_wp2_with fail
      go_meet
      exact ⟨gN, _, _, rfl, ⟨bZ, RZ1, RZ2, D12, lN, lt1, lt2⟩, BZ⟩
  case rest =>
    obtain ⟨g, v1, v2, rfl, NM, BW⟩ := hcut
    have bCz := bC.keep BW
    have k0 := bCz.cell 0
    have k1 := bCz.cell 1
    have k2 := bCz.cell 2
    simp at k0 k1 k2
    have lB := BW.size
    clear KP BX0 RS RO bM bCz f0 f1 f2
    have hcase := HK.out.2
    rcases hcase with rfl | rfl | rfl
    · obtain ⟨b, r1, r2, d, hg, n1, n2'⟩ := id NM
      have g1 := b.cell 1
      simp at g1
      have NI := insert_any v1 w2.heap.size ss (i + 1) a wc r1 lB (by have := HL.out; omega) (by have := HL.out; omega) (by have := HL.out; omega)
      rw [show (((i + 1 : Nat) : Int)) = (i : Int) + 1 by omega] at NI
      obtain ⟨X1, y1, rfl⟩ := r1.slice
      obtain ⟨b2, y2, rfl⟩ := r2.form (by have := HL.out; omega)
      obtain ⟨L1, hL1⟩ : ∃ L1, ss.take (i + 1) ++ a :: ss.drop (i + 1) = L1 := ⟨_, rfl⟩
      have HL1 := Lib.hid (show newS 0 i a ss = L1 by rw [← hL1]; rfl)
      rw [hL1] at NI
      clear hL1
      go_wp2_with fail
      refine NI.mono ?_
      rintro e w3 ⟨v1', rfl, R1, F1, -⟩
      have b3 := b.grown F1.1 (fun x => n1 g x.symm rfl)
      have z1 := b3.frozen 1
      have q1 := b3.cell 1
      simp at q1
      have NM4 := NM.setS F1 R1
      have BW4 := NM.below BW lB F1 1 v1'
      obtain ⟨Z1, zy1, rfl⟩ := R1.slice
      clear NI NM BW b r1 r2 d hg n1 n2' k0 k1 k2 g1
      go_upto_region 5 with fail
      generalize w3.setCell ⟨g, 1, none⟩ (.slice Z1 L1.length zy1) = w4 at *
      clear F1 R1 b3 z1 q1 lB
      have lB := BW4.size
      obtain ⟨b, r1, r2, d, hg, n1, n2'⟩ := id NM4
      have g2 := b.cell 2
      simp at g2
      obtain ⟨x0, f0⟩ := r2.at (k := i) (by have := HL.out; omega)
      obtain ⟨o, ho⟩ : ∃ o, it os i = o := ⟨_, rfl⟩
      rw [ho] at x0
      have NI := insert_any _ w2.heap.size os (i + 1) o w4.drew r2 lB (by have := HL.out; omega) (by have := HL.out; omega) (by have := HL.out; omega)
      rw [show (((i + 1 : Nat) : Int)) = (i : Int) + 1 by omega] at NI
      obtain ⟨L2, hL2⟩ : ∃ L2, os.take (i + 1) ++ o :: os.drop (i + 1) = L2 := ⟨_, rfl⟩
      have HL2 := Lib.hid (show newO 0 i tn os = L2 by rw [← hL2, ← ho]; rfl)
      rw [hL2] at NI
      have hio : i < os.length := by have := HL.out; omega
      clear hL2 ho
      refine HeldX.wp_region_X (S := (fun w' => w'.cell? ⟨g, 2, none⟩ = some (.slice (some ⟨b2, 0, none⟩) os.length y2) ∧ w'.cell? ⟨b2, i, none⟩ = some (.int .i64 o))) (by kernel_rfl) ⟨g2, x0⟩ (fun hHeld => ?_)
      refine HeldX.wpAnyX_take (i := 0) (v := (.pointer (some ⟨g, 2, none⟩))) rfl (by kernel_rfl) (by kernel_rfl) (by kernel_rfl) (fun _ _ _ h => h) (Or.inl ⟨by rfl, fun w hSw => by (try dsimp only at hSw); go_simp⟩) (by assumption) ?_
      try simp only [List.getElem_toArray, List.getElem_cons_zero, List.getElem_cons_succ, Act.put, List.setIfInBounds_toArray, List.set_cons_zero, List.set_cons_succ]
      refine HeldX.wpAnyX_take (i := 1) (v := (.slice (some ⟨b2, 0, none⟩) os.length y2)) rfl (by kernel_rfl) (by kernel_rfl) (by kernel_rfl) (fun _ _ _ h => h) (Or.inl ⟨by rfl, fun w hSw => by (try dsimp only at hSw); go_simp⟩) (by assumption) ?_
      try simp only [List.getElem_toArray, List.getElem_cons_zero, List.getElem_cons_succ, Act.put, List.setIfInBounds_toArray, List.set_cons_zero, List.set_cons_succ]
      refine HeldX.wpAnyX_take (i := 2) (v := (.int .i64 i)) rfl (by kernel_rfl) (by kernel_rfl) (by kernel_rfl) (fun _ _ _ h => h) (Or.inl ⟨by rfl, fun w hSw => by (try dsimp only at hSw); go_simp⟩) (by assumption) ?_
      try simp only [List.getElem_toArray, List.getElem_cons_zero, List.getElem_cons_succ, Act.put, List.setIfInBounds_toArray, List.set_cons_zero, List.set_cons_succ]
      refine HeldX.wpAnyX_take (i := 3) (v := (.int .i64 ((i : Int) + 1))) rfl (by kernel_rfl) (by kernel_rfl) (by kernel_rfl) (fun _ _ _ h => h) (Or.inl ⟨by rfl, fun w hSw => by (try dsimp only at hSw); go_simp⟩) (by assumption) ?_
      try simp only [List.getElem_toArray, List.getElem_cons_zero, List.getElem_cons_succ, Act.put, List.setIfInBounds_toArray, List.set_cons_zero, List.set_cons_succ]
      refine HeldX.wpAnyX_take (i := 4) (v := (.pointer (some ⟨g, 2, none⟩))) rfl (by kernel_rfl) (by kernel_rfl) (by kernel_rfl) (fun _ _ _ h => h) (Or.inl ⟨by rfl, fun w hSw => by (try dsimp only at hSw); go_simp⟩) (by assumption) ?_
      try simp only [List.getElem_toArray, List.getElem_cons_zero, List.getElem_cons_succ, Act.put, List.setIfInBounds_toArray, List.set_cons_zero, List.set_cons_succ]
      refine HeldX.wpAnyX_take (i := 5) (v := (.slice (some ⟨b2, 0, none⟩) os.length y2)) rfl (by kernel_rfl) (by kernel_rfl) (by kernel_rfl) (fun _ _ _ h => h) (Or.inl ⟨by rfl, fun w hSw => by (try dsimp only at hSw); go_simp⟩) (by assumption) ?_
      try simp only [List.getElem_toArray, List.getElem_cons_zero, List.getElem_cons_succ, Act.put, List.setIfInBounds_toArray, List.set_cons_zero, List.set_cons_succ]
      refine HeldX.wpAnyX_take (i := 6) (v := (.int .i64 i)) rfl (by kernel_rfl) (by kernel_rfl) (by kernel_rfl) (fun _ _ _ h => h) (Or.inl ⟨by rfl, fun w hSw => by (try dsimp only at hSw); go_simp⟩) (by assumption) ?_
      try simp only [List.getElem_toArray, List.getElem_cons_zero, List.getElem_cons_succ, Act.put, List.setIfInBounds_toArray, List.set_cons_zero, List.set_cons_succ]
      refine HeldX.wpAnyX_take (i := 7) (v := (.pointer (some ⟨b2, i, none⟩))) rfl (by kernel_rfl) (by kernel_rfl) (by kernel_rfl) (fun _ _ _ h => h) (Or.inl ⟨by rfl, fun w hSw => by (try dsimp only at hSw); go_simp⟩) (by assumption) ?_
      try simp only [List.getElem_toArray, List.getElem_cons_zero, List.getElem_cons_succ, Act.put, List.setIfInBounds_toArray, List.set_cons_zero, List.set_cons_succ]
      refine HeldX.wpAnyX_take (i := 8) (v := (.int .i64 o)) rfl (by kernel_rfl) (by kernel_rfl) (by kernel_rfl) (fun _ _ _ h => h) (Or.inl ⟨by rfl, fun w hSw => by (try dsimp only at hSw); go_simp⟩) (by assumption) ?_
      try simp only [List.getElem_toArray, List.getElem_cons_zero, List.getElem_cons_succ, Act.put, List.setIfInBounds_toArray, List.set_cons_zero, List.set_cons_succ]
      refine HeldX.wpAnyX_step (i := 9) (by kernel_rfl) rfl (fun K hK => ?_)
      go_simp
      refine hK.out _ _ ⟨cell_keep (Ba (Bd B0)) g2, cell_keep (Ba (Bd B0)) x0⟩ (fun _ => ?_)
      clear hK K
      try simp only [List.getElem_toArray, List.getElem_cons_zero, List.getElem_cons_succ, Act.put, List.setIfInBounds_toArray, List.set_cons_zero, List.set_cons_succ]
      refine HeldX.wpAnyX_step (i := 10) (by kernel_rfl) rfl (fun K hK => ?_)
      go_simp
      refine NI.mono ?_
      rintro e w5 ⟨v2', rfl, R2, F2, kp⟩
      have s1 := F2.1.cell g2 (fun x => n2' g x.symm rfl)
      have s2 := (kp i b2 (by omega) rfl).trans x0
      refine hK.out _ _ ⟨s1, s2⟩ (fun hHeld2 => ?_)
      clear hK K hHeld
      try simp only [List.getElem_toArray, List.getElem_cons_zero, List.getElem_cons_succ, Act.put, List.setIfInBounds_toArray, List.set_cons_zero, List.set_cons_succ]
      refine HeldX.wpAnyX_take (i := 11) (v := (.pointer (some ⟨g, 2, none⟩))) rfl (by kernel_rfl) (by kernel_rfl) (by kernel_rfl) (fun _ _ _ h => h) (Or.inl ⟨by rfl, fun w hSw => by (try dsimp only at hSw); go_simp⟩) (by assumption) ?_
      try simp only [List.getElem_toArray, List.getElem_cons_zero, List.getElem_cons_succ, Act.put, List.setIfInBounds_toArray, List.set_cons_zero, List.set_cons_succ]
      have b5 := Blk.grown (w := w4.drew) b F2.1 (fun x => n2' g x.symm rfl)
      have z2 := b5.frozen 2
      have NM5 : NewMap (w5.setCell ⟨g, 2, none⟩ v2') w2.heap.size g (m + 1) _ _ _ _ := NewMap.setO (W := w4.drew) NM4 F2 R2
      have BW5 := NewMap.below' (W := w4.drew) NM4 (Bd BW4) lB F2 2 v2'
      obtain ⟨Z2, zy2, rfl⟩ := R2.slice
      clear NM4 BW4 b b5 r1 r2 d hg n1 n2' kp F2 R2 NI x0 f0 s2 lB
      refine HeldX.wpAnyX_last (i := 12) (by kernel_rfl) (by kernel_rfl) rfl (fun K hK => ?_)
      go_simp
      refine hK.out _ _ ?_
      clear hK K
      generalize w5.setCell ⟨g, 2, none⟩ (.slice Z2 L2.length zy2) = w6 at *
      clear s1 z2
      obtain ⟨b, r1, r2, d, hg, n1, n2⟩ := id NM5
      have bOz := bO.keep BW5
      have g0 := b.cell 0
      have g1 := b.cell 1
      have g2 := b.cell 2
      simp at g0 g1 g2
      have o0 := bOz.cell 0
      have o1 := bOz.cell 1
      have o2 := bOz.cell 2
      simp at o0 o1 o2
      have z0 := bOz.frozen 0
      have z1 := bOz.frozen 1
      have z2 := bOz.frozen 2
      have lO : w.heap.size + 1 + 1 < w2.heap.size := by omega
      have Q1 := Lib.hid (InRow.mono (row_far (g := w.heap.size + 1 + 1) (row_far (g := w.heap.size + 1 + 1) (row_far (g := w.heap.size + 1 + 1) r1 (fun p hp => by have := (World.ownsRow.lt r1 p hp).1; omega) 0 (.int .i64 (m + 1))) (fun p hp => by have := (World.ownsRow.lt r1 p hp).1; omega) 1 (.slice Z1 L1.length zy1)) (fun p hp => by have := (World.ownsRow.lt r1 p hp).1; omega) 2 (.slice Z2 L2.length zy2)) (show w.heap.size ≤ w2.heap.size by omega))
      have Q2 := Lib.hid (InRow.mono (row_far (g := w.heap.size + 1 + 1) (row_far (g := w.heap.size + 1 + 1) (row_far (g := w.heap.size + 1 + 1) r2 (fun p hp => by have := (World.ownsRow.lt r2 p hp).1; omega) 0 (.int .i64 (m + 1))) (fun p hp => by have := (World.ownsRow.lt r2 p hp).1; omega) 1 (.slice Z1 L1.length zy1)) (fun p hp => by have := (World.ownsRow.lt r2 p hp).1; omega) 2 (.slice Z2 L2.length zy2)) (show w.heap.size ≤ w2.heap.size by omega))
      have QB := Lib.hid (Bs (Bs (Bs (hB2.trans (BW5.mono (by omega))) (p := ⟨w.heap.size + 1 + 1, 0, none⟩) (u := .int .i64 (m + 1)) (by show w.heap.size ≤ w.heap.size + 1 + 1; omega)) (p := ⟨w.heap.size + 1 + 1, 1, none⟩) (u := .slice Z1 L1.length zy1) (by show w.heap.size ≤ w.heap.size + 1 + 1; omega)) (p := ⟨w.heap.size + 1 + 1, 2, none⟩) (u := .slice Z2 L2.length zy2) (by show w.heap.size ≤ w.heap.size + 1 + 1; omega))
      clear b r1 r2 NM5 BW5 bO bOz hg n1
      go_wp2_with fail
      refine bodyPost_ret (v := .agg #[.int .i64 (m + 1), .slice Z1 L1.length zy1, .slice Z2 L2.length zy2]) (by simp [results, Try.results38, go_sem, o0, o1, o2]) rfl ⟨_, _, rfl, ?_, ?_, d, QB.out⟩
      · rw [HL1.out]; exact Q1.out
      · rw [HL2.out]; exact Q2.out
    · obtain ⟨b, r1, r2, d, hg, n1, n2'⟩ := id NM
      have g2 := b.cell 2
      simp at g2
      obtain ⟨b2, y2, rfl⟩ := r2.form (by have := HL.out; omega)
      obtain ⟨x0, f0⟩ := r2.at (k := i) (by have := HL.out; omega)
      have hio : i < os.length := by have := HL.out; omega
      obtain ⟨NM5, BW5⟩ := NM.put BW i tn
      obtain ⟨L1, hL1⟩ : ∃ L1, ss = L1 := ⟨_, rfl⟩
      have HL1 := Lib.hid (show newS 1 i a ss = L1 by rw [← hL1]; rfl)
      obtain ⟨L2, hL2⟩ : ∃ L2, os.set i tn = L2 := ⟨_, rfl⟩
      have HL2 := Lib.hid (show newO 1 i tn os = L2 by rw [← hL2]; rfl)
      have HN2 := Lib.hid (show os.length = L2.length by rw [← hL2, List.length_set])
      rw [hL2] at NM5
      clear hL2 NM BW b r1 d hg n1 n2' k1 lB
      go_upto_region 11 with fail
      generalize wc.setCell ⟨b2, i, none⟩ (.int .i64 tn) = w6 at *
      clear g2 x0 f0 k0 k2 r2 hio
      obtain ⟨X1, y1, rfl⟩ := NM5.2.1.slice
      rw [HN2.out] at NM5
      rw [hL1] at NM5
      clear hL1
      obtain ⟨b, r1, r2, d, hg, n1, n2⟩ := id NM5
      have bOz := bO.keep BW5
      have g0 := b.cell 0
      have g1 := b.cell 1
      have g2 := b.cell 2
      simp at g0 g1 g2
      have o0 := bOz.cell 0
      have o1 := bOz.cell 1
      have o2 := bOz.cell 2
      simp at o0 o1 o2
      have z0 := bOz.frozen 0
      have z1 := bOz.frozen 1
      have z2 := bOz.frozen 2
      have lO : w.heap.size + 1 + 1 < w2.heap.size := by omega
      have Q1 := Lib.hid (InRow.mono (row_far (g := w.heap.size + 1 + 1) (row_far (g := w.heap.size + 1 + 1) (row_far (g := w.heap.size + 1 + 1) r1 (fun p hp => by have := (World.ownsRow.lt r1 p hp).1; omega) 0 (.int .i64 (m + 1))) (fun p hp => by have := (World.ownsRow.lt r1 p hp).1; omega) 1 (.slice X1 L1.length y1)) (fun p hp => by have := (World.ownsRow.lt r1 p hp).1; omega) 2 (.slice (some ⟨b2, 0, none⟩) L2.length y2)) (show w.heap.size ≤ w2.heap.size by omega))
      have Q2 := Lib.hid (InRow.mono (row_far (g := w.heap.size + 1 + 1) (row_far (g := w.heap.size + 1 + 1) (row_far (g := w.heap.size + 1 + 1) r2 (fun p hp => by have := (World.ownsRow.lt r2 p hp).1; omega) 0 (.int .i64 (m + 1))) (fun p hp => by have := (World.ownsRow.lt r2 p hp).1; omega) 1 (.slice X1 L1.length y1)) (fun p hp => by have := (World.ownsRow.lt r2 p hp).1; omega) 2 (.slice (some ⟨b2, 0, none⟩) L2.length y2)) (show w.heap.size ≤ w2.heap.size by omega))
      have QB := Lib.hid (Bs (Bs (Bs (hB2.trans (BW5.mono (by omega))) (p := ⟨w.heap.size + 1 + 1, 0, none⟩) (u := .int .i64 (m + 1)) (by show w.heap.size ≤ w.heap.size + 1 + 1; omega)) (p := ⟨w.heap.size + 1 + 1, 1, none⟩) (u := .slice X1 L1.length y1) (by show w.heap.size ≤ w.heap.size + 1 + 1; omega)) (p := ⟨w.heap.size + 1 + 1, 2, none⟩) (u := .slice (some ⟨b2, 0, none⟩) L2.length y2) (by show w.heap.size ≤ w.heap.size + 1 + 1; omega))
      clear b r1 r2 NM5 BW5 bO bOz hg n1
      go_wp2_with fail
      refine bodyPost_ret (v := .agg #[.int .i64 (m + 1), .slice X1 L1.length y1, .slice (some ⟨b2, 0, none⟩) L2.length y2]) (by simp [results, Try.results38, go_sem, o0, o1, o2]) rfl ⟨_, _, rfl, ?_, ?_, d, QB.out⟩
      · rw [HL1.out]; exact Q1.out
      · rw [HL2.out]; exact Q2.out
    · obtain ⟨b, r1, r2, d, hg, n1, n2'⟩ := id NM
      have g1 := b.cell 1
      simp at g1
      have hi2 := HK.out.1 rfl
      have NI := delete_any v1 w2.heap.size ss (i + 1) wc r1 hi2
      rw [show (((i + 1 + 1 : Nat) : Int)) = (i : Int) + 2 by omega, show (((i + 1 : Nat) : Int)) = (i : Int) + 1 by omega] at NI
      obtain ⟨X1, y1, rfl⟩ := r1.slice
      obtain ⟨b2, y2, rfl⟩ := r2.form (by have := HL.out; omega)
      obtain ⟨L1, hL1⟩ : ∃ L1, ss.take (i + 1) ++ ss.drop (i + 1 + 1) = L1 := ⟨_, rfl⟩
      have HL1 := Lib.hid (show newS 2 i a ss = L1 by rw [← hL1]; rfl)
      rw [hL1] at NI
      have hio : i + 1 < os.length := by have := HL.out; omega
      clear hL1 hi2
      go_wp2_with fail
      refine NI.mono ?_
      rintro e w3 ⟨v1', rfl, R1, F1⟩
      have b3 := b.grown F1.1 (fun x => n1 g x.symm rfl)
      have z1 := b3.frozen 1
      have q1 := b3.cell 1
      simp at q1
      have NM4 := NM.setS F1 R1
      have BW4 := NM.below BW lB F1 1 v1'
      obtain ⟨Z1, zy1, rfl⟩ := R1.slice
      clear NI NM BW b r1 r2 d hg n1 n2' k0 k1 k2 g1
      go_upto_region 10 with fail
      generalize w3.setCell ⟨g, 1, none⟩ (.slice Z1 L1.length zy1) = w4 at *
      clear F1 R1 b3 z1 q1 lB
      have lB := BW4.size
      obtain ⟨b, r1, r2, d, hg, n1, n2'⟩ := id NM4
      have g2 := b.cell 2
      simp at g2
      have NI := delete_any _ w2.heap.size os (i + 1) w4 r2 hio
      rw [show (((i + 1 + 1 : Nat) : Int)) = (i : Int) + 2 by omega, show (((i + 1 : Nat) : Int)) = (i : Int) + 1 by omega] at NI
      obtain ⟨L2, hL2⟩ : ∃ L2, os.take (i + 1) ++ os.drop (i + 1 + 1) = L2 := ⟨_, rfl⟩
      have HL2 := Lib.hid (show newO 2 i tn os = L2 by rw [← hL2]; rfl)
      rw [hL2] at NI
      clear hL2 hio
      go_wp2_with fail
      refine NI.mono ?_
      rintro e w5 ⟨v2', rfl, R2, F2⟩
      have b5 := b.grown F2.1 (fun x => n2' g x.symm rfl)
      have z2 := b5.frozen 2
      have q2 := b5.cell 2
      simp at q2
      have NM5 := NM4.setO F2 R2
      have BW5 := NM4.below' BW4 lB F2 2 v2'
      obtain ⟨Z2, zy2, rfl⟩ := R2.slice
      clear NM4 BW4 b r1 r2 d hg n1 n2' NI g2 lB
      go_upto_region 11 with fail
      generalize w5.setCell ⟨g, 2, none⟩ (.slice Z2 L2.length zy2) = w6 at *
      clear F2 R2 b5 z2 q2
      obtain ⟨b, r1, r2, d, hg, n1, n2⟩ := id NM5
      have bOz := bO.keep BW5
      have g0 := b.cell 0
      have g1 := b.cell 1
      have g2 := b.cell 2
      simp at g0 g1 g2
      have o0 := bOz.cell 0
      have o1 := bOz.cell 1
      have o2 := bOz.cell 2
      simp at o0 o1 o2
      have z0 := bOz.frozen 0
      have z1 := bOz.frozen 1
      have z2 := bOz.frozen 2
      have lO : w.heap.size + 1 + 1 < w2.heap.size := by omega
      have Q1 := Lib.hid (InRow.mono (row_far (g := w.heap.size + 1 + 1) (row_far (g := w.heap.size + 1 + 1) (row_far (g := w.heap.size + 1 + 1) r1 (fun p hp => by have := (World.ownsRow.lt r1 p hp).1; omega) 0 (.int .i64 (m + 1))) (fun p hp => by have := (World.ownsRow.lt r1 p hp).1; omega) 1 (.slice Z1 L1.length zy1)) (fun p hp => by have := (World.ownsRow.lt r1 p hp).1; omega) 2 (.slice Z2 L2.length zy2)) (show w.heap.size ≤ w2.heap.size by omega))
      have Q2 := Lib.hid (InRow.mono (row_far (g := w.heap.size + 1 + 1) (row_far (g := w.heap.size + 1 + 1) (row_far (g := w.heap.size + 1 + 1) r2 (fun p hp => by have := (World.ownsRow.lt r2 p hp).1; omega) 0 (.int .i64 (m + 1))) (fun p hp => by have := (World.ownsRow.lt r2 p hp).1; omega) 1 (.slice Z1 L1.length zy1)) (fun p hp => by have := (World.ownsRow.lt r2 p hp).1; omega) 2 (.slice Z2 L2.length zy2)) (show w.heap.size ≤ w2.heap.size by omega))
      have QB := Lib.hid (Bs (Bs (Bs (hB2.trans (BW5.mono (by omega))) (p := ⟨w.heap.size + 1 + 1, 0, none⟩) (u := .int .i64 (m + 1)) (by show w.heap.size ≤ w.heap.size + 1 + 1; omega)) (p := ⟨w.heap.size + 1 + 1, 1, none⟩) (u := .slice Z1 L1.length zy1) (by show w.heap.size ≤ w.heap.size + 1 + 1; omega)) (p := ⟨w.heap.size + 1 + 1, 2, none⟩) (u := .slice Z2 L2.length zy2) (by show w.heap.size ≤ w.heap.size + 1 + 1; omega))
      clear b r1 r2 NM5 BW5 bO bOz hg n1
      go_wp2_with fail
      refine bodyPost_ret (v := .agg #[.int .i64 (m + 1), .slice Z1 L1.length zy1, .slice Z2 L2.length zy2]) (by simp [results, Try.results38, go_sem, o0, o1, o2]) rfl ⟨_, _, rfl, ?_, ?_, d, QB.out⟩
      · rw [HL1.out]; exact Q1.out
      · rw [HL2.out]; exact Q2.out
end Go.Proofs.Ytbgkkpfhjggbkaa.IntW
