import Derived.Test.YtiboonkegjahaaaGreatIdxNear
import Derived.Test.YtiboonkegjahaaaGreatSlRow
import Derived.Test.YtiboonkegjahaaaGreatGeomRmt
import Derived.Test.YtiboonkegjahaaaGreatHeldTwo
import Derived.Deep.DeepCutAuto
import Derived.Deep.CutBlock
import Derived.Deep.RegionHeld3
import Derived.Test.YtiboonkegjahaaaGreatInts
/-
  The walk of the document's own index: Put (written by tools/gen/refidx.py).
-/
namespace Go.Proofs.YtiboonkegjahaaaGreat.IdxW
open Go.RowKit WideW CovW SlW
set_option linter.all false

theorem item_info : (Tryz.prog.info? 32).map (fun i => (i.zero, i.size, i.bytes)) = some (some (.agg #[.int .i64 0, .int .i64 0, .int .i64 0, .int .i64 0, .int .i64 0]), 5, 40) := by kernel_rfl
theorem items_elem : Tryz.prog.underlying 26 = some (.slice (Tryz.prog.elem 26)) := by kernel_rfl
theorem items_size : ∀ W, (sizeOf (Tryz.prog.elem 26)).run Tryz.prog W = .ok 5 W := fun _ => by kernel_rfl
/-- The document's index lies in block m, its items in the row v. -/
def Ix (w : World) (m : Nat) (v : Value) (l : List ItV) : Prop := Blk w m 28 #[v] ∧ w.ownsRow 0 32 5 v l.length (itc l)
/-- What it turns: its own block, its items. -/
def IxS (m : Nat) (v : Value) (k : Nat) : Prop := k = m ∨ v.ownBlock = some k
theorem Ix.ne {w : World} {m : Nat} {v : Value} {l : List ItV} (h : Ix w m v l) : ∀ q, v.ownBlock = some q → q ≠ m := by
  rintro q hq rfl
  rcases h.2.2 with ⟨rfl, -⟩ | ⟨g, cap, cur, rfl, -, hg, -⟩
  · cases hq
  · have e : g = q := by simpa [Value.ownBlock] using hq
    subst e
    have := h.1
    unfold Blk at this
    rw [hg] at this
    simp at this
theorem Ix.keep {w w' : World} {m : Nat} {v : Value} {l : List ItV} (h : Ix w m v l) (hb : Below w.heap.size w w') : Ix w' m v l :=
  ⟨h.1.keep hb, World.ownsRow.kept h.2 (CovW.grown_below hb none) (by cases v.ownBlock <;> simp)⟩
theorem Ix.lt {w : World} {m : Nat} {v : Value} {l : List ItV} (h : Ix w m v l) : m < w.heap.size ∧ ∀ q, v.ownBlock = some q → q < w.heap.size := ⟨h.1.lt, fun q hq => (World.ownsRow.lt h.2 q hq).2⟩
theorem sl_form {w : World} {base size n : Nat} {t : TypeId} {v : Value} {xs : List Value} (h : w.ownsRow base t size v n xs) : ∃ A c, v = .slice A n c := by
  rcases h.2 with ⟨rfl, rfl⟩ | ⟨g, cap, cur, rfl, -⟩
  · exact ⟨_, _, rfl⟩
  · exact ⟨_, _, rfl⟩
theorem sl_less {w : World} {base base' size n : Nat} {t : TypeId} {v : Value} {xs : List Value} (h : w.ownsRow base t size v n xs) (hb : base' ≤ base) : w.ownsRow base' t size v n xs := by
  refine ⟨h.1, ?_⟩
  rcases h.2 with h | ⟨g, cap, cur, e, k, r⟩
  · exact .inl h
  · exact .inr ⟨g, cap, cur, e, by omega, r⟩
theorem ownsRow_far {w : World} {base size n : Nat} {t : TypeId} {v : Value} {xs : List Value} {p : Addr} (h : w.ownsRow base t size v n xs) (hp : ∀ q, v.ownBlock = some q → q ≠ p.block) (u : Value) : (w.setCell p u).ownsRow base t size v n xs := by
  refine ⟨h.1, ?_⟩
  rcases h.2 with h | ⟨g, cap, cur, rfl, k, hg, r⟩
  · exact .inl h
  · exact .inr ⟨g, cap, cur, rfl, k, (Below.heap_setCell w p u g (hp g rfl)).trans hg, r⟩
theorem no_bool {z : Bool} {P : Prop} (h : z = true ↔ P) (n : ¬ P) : z = false := by
  cases z
  · rfl
  · exact absurd (h.1 rfl) n
def PutOut (l : List ItV) (x : ItV) (l' : List ItV) (k : Int) : Prop := (ItemMay x ∧ l' = putIt l x ∧ k = 0) ∨ (¬ ItemMay x ∧ l' = l ∧ k = 1200)

set_option maxRecDepth 100000 in
set_option maxHeartbeats 8000000 in
theorem ixPut_any (m : Nat) (v : Value) (l : List ItV) (x : ItV) (w : World) (h : Ix w m v l) (hl : l.length ≤ 1000) :
    Calls Tryz.prog 7 #[.pointer (some ⟨m, 0, none⟩), .agg #[.int .i64 x.id, .int .i64 x.a, .int .i64 x.b, .int .i64 x.c, .int .i64 x.d]] w fun e w' => ∃ v' l' k, e = .returned (.int .i64 k) ∧ PutOut l x l' k ∧ Ix w' m v' l' ∧ Ft (IxS m v) w w' ∧ ∀ q, v'.ownBlock = some q → v.ownBlock = some q ∨ w.heap.size ≤ q := by
  obtain ⟨I, hI⟩ : ∃ I, w.heap.size = I := ⟨_, rfl⟩
  obtain ⟨A, c, rfl⟩ : ∃ A c, v = .slice A l.length c := by
    rcases h.2.2 with ⟨rfl, h0⟩ | ⟨g, cap, cur, rfl, -⟩
    · exact ⟨_, _, by rw [h0]⟩
    · exact ⟨_, _, rfl⟩
  obtain ⟨n, hn⟩ : ∃ n, l.length = n := ⟨_, rfl⟩
  have b1 := Blk.new' w 32 #[.int .i64 x.id, .int .i64 x.a, .int .i64 x.b, .int .i64 x.c, .int .i64 x.d] hI.symm
  have B1 := Ba (w := w) (o := .cells #[.int .i64 x.id, .int .i64 x.a, .int .i64 x.b, .int .i64 x.c, .int .i64 x.d] 32) B0
  have h1 := h.keep B1
  have hne := h.ne
  have hlt := h.lt
  rw [hn] at hne hlt
  have HNE := Lib.hid hne
  have HLT := Lib.hid hlt
  have HI := Lib.hid hI
  clear hne hlt
  obtain ⟨z, hz⟩ := has_bool (ItemMay x)
  obtain ⟨zb, hzb⟩ := has_bool (Geom.Bx x.a x.b x.c x.d)
  have HZ := Lib.hid hz
  have HZB := Lib.hid hzb
  rw [hn] at hl h1 ⊢
  have HN := Lib.hid hn
  clear h hz hzb hn
  go_enter Tryz.func7, Tryz.ntmps7
  go_upto_region 1 with fail
  try rw [hI]
  clear hI
  generalize w.alloc (.cells #[.int .i64 x.id, .int .i64 x.a, .int .i64 x.b, .int .i64 x.c, .int .i64 x.d] 32) = w1 at *
  have d0 := b1.cell 0
  have d1 := b1.cell 1
  have d2 := b1.cell 2
  have d3 := b1.cell 3
  have d4 := b1.cell 4
  simp at d0 d1 d2 d3 d4
  go_cut [20] (fun s wx => s = .bool (!z) ∧ Below w1.heap.size w1 wx)
  case first =>
    by_cases k1 : x.id < 1
    · obtain rfl : z = false := no_bool HZ.out (fun e => by have := e.1; omega)
      go_wp2_with fail
      go_meet
      exact ⟨rfl, B0⟩
    by_cases k2 : 65535 < x.id
    · obtain rfl : z = false := no_bool HZ.out (fun e => by have := e.1; omega)
      go_wp2_with fail
      go_meet
      exact ⟨rfl, B0⟩
    have e : z = zb := Bool.eq_iff_iff.2 ⟨fun e => HZB.out.2 (HZ.out.1 e).2, fun e => HZ.out.2 ⟨⟨by omega, by omega⟩, HZB.out.1 e⟩⟩
    subst e
    go_wp2_with fail
    refine (rbx_any x.a x.b x.c x.d z w1 HZB.out).mono ?_
    rintro _ w2 ⟨rfl, hb⟩
    go_wp2_with fail
    go_meet
    exact ⟨rfl, hb⟩
  case rest =>
  obtain ⟨rfl, hb2⟩ := hcut
  have b2 := b1.keep hb2
  have h2 := h1.keep hb2
  have B2 := Bt B1 hb2
  clear d0 d1 d2 d3 d4 b1 h1 hb2 B1
  cases z
  case false =>
    go_wp2_with fail
    refine bodyPost_ret (v := .int .i64 1200) (by simp [results, Tryz.results7, go_sem]) rfl ⟨_, l, 1200, rfl, .inr ⟨fun e => absurd (HZ.out.2 e) (by decide), rfl, rfl⟩, h2, Ft.of_below B2, fun q hq => .inl hq⟩
  have HM : Hid (ItemMay x) := Lib.hid (HZ.out.1 rfl)
  clear HZ HZB
  obtain ⟨I0, hI0⟩ : ∃ y, x.id = y := ⟨_, rfl⟩
  have HI0 := Lib.hid hI0
  rw [hI0] at b2 ⊢
  clear hI0
  obtain ⟨P, hP⟩ : ∃ P, pos l x.id = P := ⟨_, rfl⟩
  have HP := Lib.hid hP
  have hPn : P ≤ n := by rw [← hP, ← HN.out]; exact pos_le _ _
  clear hP
  generalize wc = w2 at *
  go_wp2_with fail
  go_loopw [5] (fun i W => ∃ k : Nat, k ≤ P ∧ i = .int .i64 k ∧ Below w2.heap.size w2 W) (fun i _ => n - (intOf i).toNat)
  case atStart => exact ⟨0, Nat.zero_le _, rfl, B0⟩
  case round =>
    obtain ⟨k, hk, rfl, hF⟩ := hrel
    have h3 := h2.keep hF
    have b3 := b2.keep hF
    have a0 := h3.1.cell 0
    have d0 := b3.cell 0
    simp at a0 d0
    obtain ⟨z, hz⟩ := has_bool (k < n ∧ (itAt l k).id < I0)
    have HZ := Lib.hid hz
    go_upto_region 4 with fail
    go_cut [40] (fun s wx => s = .bool z ∧ wr.drew = wx)
    case first =>
      clear hz
      by_cases hkn : k < n
      case neg =>
        obtain rfl : z = false := no_bool HZ.out (fun e => hkn e.1)
        refine wp_region_held_drew (S := (fun w' => w'.cell? ⟨m, 0, none⟩ = some (.slice A n c))) (by kernel_rfl) a0 (fun hHeld => ?_)
        refine wpAnyH_take (i := 0) (v := (.int .i64 k)) rfl (by kernel_rfl) (by kernel_rfl) (by kernel_rfl) (fun _ _ _ h => h) (Or.inl ⟨by rfl, fun w hSw => by (try dsimp only at hSw); go_simp <;> first | rfl | assumption | (simp; omega) | omega⟩) (by assumption) ?_
        try simp only [List.getElem_toArray, List.getElem_cons_zero, List.getElem_cons_succ, Act.put, List.setIfInBounds_toArray, List.set_cons_zero, List.set_cons_succ]
        refine wpAnyH_take (i := 1) (v := (.pointer (some ⟨m, 0, none⟩))) rfl (by kernel_rfl) (by kernel_rfl) (by kernel_rfl) (fun _ _ _ h => h) (Or.inl ⟨by rfl, fun w hSw => by (try dsimp only at hSw); go_simp <;> first | rfl | assumption | (simp; omega) | omega⟩) (by assumption) ?_
        try simp only [List.getElem_toArray, List.getElem_cons_zero, List.getElem_cons_succ, Act.put, List.setIfInBounds_toArray, List.set_cons_zero, List.set_cons_succ]
        refine wpAnyH_take (i := 2) (v := (.pointer (some ⟨m, 0, none⟩))) rfl (by kernel_rfl) (by kernel_rfl) (by kernel_rfl) (fun _ _ _ h => h) (Or.inl ⟨by rfl, fun w hSw => by (try dsimp only at hSw); go_simp <;> first | rfl | assumption | (simp; omega) | omega⟩) (by assumption) ?_
        try simp only [List.getElem_toArray, List.getElem_cons_zero, List.getElem_cons_succ, Act.put, List.setIfInBounds_toArray, List.set_cons_zero, List.set_cons_succ]
        refine wpAnyH_take (i := 3) (v := (.pointer (some ⟨m, 0, none⟩))) rfl (by kernel_rfl) (by kernel_rfl) (by kernel_rfl) (fun _ _ _ h => h) (Or.inl ⟨by rfl, fun w hSw => by (try dsimp only at hSw); go_simp <;> first | rfl | assumption | (simp; omega) | omega⟩) (by assumption) ?_
        try simp only [List.getElem_toArray, List.getElem_cons_zero, List.getElem_cons_succ, Act.put, List.setIfInBounds_toArray, List.set_cons_zero, List.set_cons_succ]
        refine wpAnyH_take (i := 4) (v := (.slice A n c)) rfl (by kernel_rfl) (by kernel_rfl) (by kernel_rfl) (fun _ _ _ h => h) (Or.inl ⟨by rfl, fun w hSw => by (try dsimp only at hSw); go_simp <;> first | rfl | assumption | (simp; omega) | omega⟩) (by assumption) ?_
        try simp only [List.getElem_toArray, List.getElem_cons_zero, List.getElem_cons_succ, Act.put, List.setIfInBounds_toArray, List.set_cons_zero, List.set_cons_succ]
        refine wpAnyH_take (i := 5) (v := (.int .i64 (n : Int))) rfl (by kernel_rfl) (by kernel_rfl) (by kernel_rfl) (fun _ _ _ h => h) (Or.inl ⟨by rfl, fun w hSw => by (try dsimp only at hSw); go_simp <;> first | rfl | assumption | (simp; omega) | omega⟩) (by assumption) ?_
        try simp only [List.getElem_toArray, List.getElem_cons_zero, List.getElem_cons_succ, Act.put, List.setIfInBounds_toArray, List.set_cons_zero, List.set_cons_succ]
        refine wpAnyH_take (i := 6) (v := (.bool false)) rfl (by kernel_rfl) (by kernel_rfl) (by kernel_rfl) (fun _ _ _ h => h) (Or.inl ⟨by rfl, fun w hSw => by (try dsimp only at hSw); go_simp <;> first | rfl | assumption | (simp; omega) | omega⟩) (by assumption) ?_
        try simp only [List.getElem_toArray, List.getElem_cons_zero, List.getElem_cons_succ, Act.put, List.setIfInBounds_toArray, List.set_cons_zero, List.set_cons_succ]
        refine wpAnyH_take (i := 7) (v := (.bool false)) rfl (by kernel_rfl) (by kernel_rfl) (by kernel_rfl) (fun _ _ _ h => h) (Or.inl ⟨by rfl, fun w hSw => by (try dsimp only at hSw); go_simp <;> first | rfl | assumption | (simp; omega) | omega⟩) (by assumption) ?_
        try simp only [List.getElem_toArray, List.getElem_cons_zero, List.getElem_cons_succ, Act.put, List.setIfInBounds_toArray, List.set_cons_zero, List.set_cons_succ]
        refine wpAnyH_take (i := 8) (v := undef) rfl (by kernel_rfl) (by kernel_rfl) (by kernel_rfl) (fun _ _ _ h => h) (Or.inr ⟨by rfl, rfl⟩) (by assumption) ?_
        try simp only [List.getElem_toArray, List.getElem_cons_zero, List.getElem_cons_succ, Act.put, List.setIfInBounds_toArray, List.set_cons_zero, List.set_cons_succ]
        refine wpAnyH_take (i := 9) (v := undef) rfl (by kernel_rfl) (by kernel_rfl) (by kernel_rfl) (fun _ _ _ h => h) (Or.inr ⟨by rfl, rfl⟩) (by assumption) ?_
        try simp only [List.getElem_toArray, List.getElem_cons_zero, List.getElem_cons_succ, Act.put, List.setIfInBounds_toArray, List.set_cons_zero, List.set_cons_succ]
        refine wpAnyH_take (i := 10) (v := undef) rfl (by kernel_rfl) (by kernel_rfl) (by kernel_rfl) (fun _ _ _ h => h) (Or.inr ⟨by rfl, rfl⟩) (by assumption) ?_
        try simp only [List.getElem_toArray, List.getElem_cons_zero, List.getElem_cons_succ, Act.put, List.setIfInBounds_toArray, List.set_cons_zero, List.set_cons_succ]
        refine wpAnyH_take (i := 11) (v := undef) rfl (by kernel_rfl) (by kernel_rfl) (by kernel_rfl) (fun _ _ _ h => h) (Or.inr ⟨by rfl, rfl⟩) (by assumption) ?_
        try simp only [List.getElem_toArray, List.getElem_cons_zero, List.getElem_cons_succ, Act.put, List.setIfInBounds_toArray, List.set_cons_zero, List.set_cons_succ]
        refine wpAnyH_take (i := 12) (v := undef) rfl (by kernel_rfl) (by kernel_rfl) (by kernel_rfl) (fun _ _ _ h => h) (Or.inr ⟨by rfl, rfl⟩) (by assumption) ?_
        try simp only [List.getElem_toArray, List.getElem_cons_zero, List.getElem_cons_succ, Act.put, List.setIfInBounds_toArray, List.set_cons_zero, List.set_cons_succ]
        refine wpAnyH_take (i := 13) (v := undef) rfl (by kernel_rfl) (by kernel_rfl) (by kernel_rfl) (fun _ _ _ h => h) (Or.inr ⟨by rfl, rfl⟩) (by assumption) ?_
        try simp only [List.getElem_toArray, List.getElem_cons_zero, List.getElem_cons_succ, Act.put, List.setIfInBounds_toArray, List.set_cons_zero, List.set_cons_succ]
        refine wpAnyH_take (i := 14) (v := undef) rfl (by kernel_rfl) (by kernel_rfl) (by kernel_rfl) (fun _ _ _ h => h) (Or.inr ⟨by rfl, rfl⟩) (by assumption) ?_
        try simp only [List.getElem_toArray, List.getElem_cons_zero, List.getElem_cons_succ, Act.put, List.setIfInBounds_toArray, List.set_cons_zero, List.set_cons_succ]
        refine wpAnyH_take (i := 15) (v := undef) rfl (by kernel_rfl) (by kernel_rfl) (by kernel_rfl) (fun _ _ _ h => h) (Or.inr ⟨by rfl, rfl⟩) (by assumption) ?_
        try simp only [List.getElem_toArray, List.getElem_cons_zero, List.getElem_cons_succ, Act.put, List.setIfInBounds_toArray, List.set_cons_zero, List.set_cons_succ]
        refine wpAnyH_take (i := 16) (v := undef) rfl (by kernel_rfl) (by kernel_rfl) (by kernel_rfl) (fun _ _ _ h => h) (Or.inr ⟨by rfl, rfl⟩) (by assumption) ?_
        try simp only [List.getElem_toArray, List.getElem_cons_zero, List.getElem_cons_succ, Act.put, List.setIfInBounds_toArray, List.set_cons_zero, List.set_cons_succ]
        refine wpAnyH_take (i := 17) (v := undef) rfl (by kernel_rfl) (by kernel_rfl) (by kernel_rfl) (fun _ _ _ h => h) (Or.inr ⟨by rfl, rfl⟩) (by assumption) ?_
        try simp only [List.getElem_toArray, List.getElem_cons_zero, List.getElem_cons_succ, Act.put, List.setIfInBounds_toArray, List.set_cons_zero, List.set_cons_succ]
        refine wpAnyH_take (i := 18) (v := undef) rfl (by kernel_rfl) (by kernel_rfl) (by kernel_rfl) (fun _ _ _ h => h) (Or.inr ⟨by rfl, rfl⟩) (by assumption) ?_
        try simp only [List.getElem_toArray, List.getElem_cons_zero, List.getElem_cons_succ, Act.put, List.setIfInBounds_toArray, List.set_cons_zero, List.set_cons_succ]
        refine wpAnyH_take (i := 19) (v := (.bool false)) rfl (by kernel_rfl) (by kernel_rfl) (by kernel_rfl) (fun _ _ _ h => h) (Or.inl ⟨by rfl, fun w hSw => by (try dsimp only at hSw); go_simp <;> first | rfl | assumption | (simp; omega) | omega⟩) (by assumption) ?_
        try simp only [List.getElem_toArray, List.getElem_cons_zero, List.getElem_cons_succ, Act.put, List.setIfInBounds_toArray, List.set_cons_zero, List.set_cons_succ]
        refine wpAnyH_done (by kernel_rfl) ?_ _
        go_wp2_with fail
        go_meet
        exact ⟨rfl, rfl⟩
      obtain ⟨g, c0, e, hc0⟩ : ∃ g c0, Value.slice A n c = .slice (some ⟨g, 0, none⟩) n c0 ∧ wr.cell? ⟨g, k * 5, none⟩ = some (.int .i64 (itAt l k).id) := by
        rcases h3.2.2 with ⟨-, e0⟩ | ⟨g, cap, cur, e0, -, hg, -⟩
        · have := HN.out; omega
        · refine ⟨g, cap, by rw [e0, HN.out], ?_⟩
          have hh := h3.2
          rw [e0] at hh
          rw [World.ownsRow.cellAt hh (k * 5) (by have := HN.out; omega)]
          exact (itc_at l k (by have := HN.out; omega)).1
      injection e with e1 _ e3
      subst e1 e3
      obtain ⟨J, hJ⟩ : ∃ J, (itAt l k).id = J := ⟨_, rfl⟩
      rw [hJ] at hc0
      by_cases hj : J < I0
      · obtain rfl : z = true := HZ.out.2 ⟨hkn, by rw [hJ]; exact hj⟩
        clear h3 b3 hF hJ HZ
        refine wp_region_held_drew (S := (fun w' => w'.cell? ⟨m, 0, none⟩ = some (.slice (some ⟨g, 0, none⟩) n c) ∧ w'.cell? ⟨g, k * 5, none⟩ = some (.int .i64 J) ∧ w'.cell? ⟨I, 0, none⟩ = some (.int .i64 I0))) (by kernel_rfl) ⟨a0, hc0, d0⟩ (fun hHeld => ?_)
        refine wpAnyH_take (i := 0) (v := (.int .i64 k)) rfl (by kernel_rfl) (by kernel_rfl) (by kernel_rfl) (fun _ _ _ h => h) (Or.inl ⟨by rfl, fun w hSw => by (try dsimp only at hSw); go_simp <;> first | rfl | assumption | (simp; omega) | omega⟩) (by assumption) ?_
        try simp only [List.getElem_toArray, List.getElem_cons_zero, List.getElem_cons_succ, Act.put, List.setIfInBounds_toArray, List.set_cons_zero, List.set_cons_succ]
        refine wpAnyH_take (i := 1) (v := (.pointer (some ⟨m, 0, none⟩))) rfl (by kernel_rfl) (by kernel_rfl) (by kernel_rfl) (fun _ _ _ h => h) (Or.inl ⟨by rfl, fun w hSw => by (try dsimp only at hSw); go_simp <;> first | rfl | assumption | (simp; omega) | omega⟩) (by assumption) ?_
        try simp only [List.getElem_toArray, List.getElem_cons_zero, List.getElem_cons_succ, Act.put, List.setIfInBounds_toArray, List.set_cons_zero, List.set_cons_succ]
        refine wpAnyH_take (i := 2) (v := (.pointer (some ⟨m, 0, none⟩))) rfl (by kernel_rfl) (by kernel_rfl) (by kernel_rfl) (fun _ _ _ h => h) (Or.inl ⟨by rfl, fun w hSw => by (try dsimp only at hSw); go_simp <;> first | rfl | assumption | (simp; omega) | omega⟩) (by assumption) ?_
        try simp only [List.getElem_toArray, List.getElem_cons_zero, List.getElem_cons_succ, Act.put, List.setIfInBounds_toArray, List.set_cons_zero, List.set_cons_succ]
        refine wpAnyH_take (i := 3) (v := (.pointer (some ⟨m, 0, none⟩))) rfl (by kernel_rfl) (by kernel_rfl) (by kernel_rfl) (fun _ _ _ h => h) (Or.inl ⟨by rfl, fun w hSw => by (try dsimp only at hSw); go_simp <;> first | rfl | assumption | (simp; omega) | omega⟩) (by assumption) ?_
        try simp only [List.getElem_toArray, List.getElem_cons_zero, List.getElem_cons_succ, Act.put, List.setIfInBounds_toArray, List.set_cons_zero, List.set_cons_succ]
        refine wpAnyH_take (i := 4) (v := (.slice (some ⟨g, 0, none⟩) n c)) rfl (by kernel_rfl) (by kernel_rfl) (by kernel_rfl) (fun _ _ _ h => h) (Or.inl ⟨by rfl, fun w hSw => by (try dsimp only at hSw); go_simp <;> first | rfl | assumption | (simp; omega) | omega⟩) (by assumption) ?_
        try simp only [List.getElem_toArray, List.getElem_cons_zero, List.getElem_cons_succ, Act.put, List.setIfInBounds_toArray, List.set_cons_zero, List.set_cons_succ]
        refine wpAnyH_take (i := 5) (v := (.int .i64 (n : Int))) rfl (by kernel_rfl) (by kernel_rfl) (by kernel_rfl) (fun _ _ _ h => h) (Or.inl ⟨by rfl, fun w hSw => by (try dsimp only at hSw); go_simp <;> first | rfl | assumption | (simp; omega) | omega⟩) (by assumption) ?_
        try simp only [List.getElem_toArray, List.getElem_cons_zero, List.getElem_cons_succ, Act.put, List.setIfInBounds_toArray, List.set_cons_zero, List.set_cons_succ]
        refine wpAnyH_take (i := 6) (v := (.bool true)) rfl (by kernel_rfl) (by kernel_rfl) (by kernel_rfl) (fun _ _ _ h => h) (Or.inl ⟨by rfl, fun w hSw => by (try dsimp only at hSw); go_simp <;> first | rfl | assumption | (simp; omega) | omega⟩) (by assumption) ?_
        try simp only [List.getElem_toArray, List.getElem_cons_zero, List.getElem_cons_succ, Act.put, List.setIfInBounds_toArray, List.set_cons_zero, List.set_cons_succ]
        refine wpAnyH_take (i := 7) (v := (.bool true)) rfl (by kernel_rfl) (by kernel_rfl) (by kernel_rfl) (fun _ _ _ h => h) (Or.inl ⟨by rfl, fun w hSw => by (try dsimp only at hSw); go_simp <;> first | rfl | assumption | (simp; omega) | omega⟩) (by assumption) ?_
        try simp only [List.getElem_toArray, List.getElem_cons_zero, List.getElem_cons_succ, Act.put, List.setIfInBounds_toArray, List.set_cons_zero, List.set_cons_succ]
        refine wpAnyH_take (i := 8) (v := (.pointer (some ⟨m, 0, none⟩))) rfl (by kernel_rfl) (by kernel_rfl) (by kernel_rfl) (fun _ _ _ h => h) (Or.inl ⟨by rfl, fun w hSw => by (try dsimp only at hSw); go_simp <;> first | rfl | assumption | (simp; omega) | omega⟩) (by assumption) ?_
        try simp only [List.getElem_toArray, List.getElem_cons_zero, List.getElem_cons_succ, Act.put, List.setIfInBounds_toArray, List.set_cons_zero, List.set_cons_succ]
        refine wpAnyH_take (i := 9) (v := (.pointer (some ⟨m, 0, none⟩))) rfl (by kernel_rfl) (by kernel_rfl) (by kernel_rfl) (fun _ _ _ h => h) (Or.inl ⟨by rfl, fun w hSw => by (try dsimp only at hSw); go_simp <;> first | rfl | assumption | (simp; omega) | omega⟩) (by assumption) ?_
        try simp only [List.getElem_toArray, List.getElem_cons_zero, List.getElem_cons_succ, Act.put, List.setIfInBounds_toArray, List.set_cons_zero, List.set_cons_succ]
        refine wpAnyH_take (i := 10) (v := (.pointer (some ⟨m, 0, none⟩))) rfl (by kernel_rfl) (by kernel_rfl) (by kernel_rfl) (fun _ _ _ h => h) (Or.inl ⟨by rfl, fun w hSw => by (try dsimp only at hSw); go_simp <;> first | rfl | assumption | (simp; omega) | omega⟩) (by assumption) ?_
        try simp only [List.getElem_toArray, List.getElem_cons_zero, List.getElem_cons_succ, Act.put, List.setIfInBounds_toArray, List.set_cons_zero, List.set_cons_succ]
        refine wpAnyH_take (i := 11) (v := (.slice (some ⟨g, 0, none⟩) n c)) rfl (by kernel_rfl) (by kernel_rfl) (by kernel_rfl) (fun _ _ _ h => h) (Or.inl ⟨by rfl, fun w hSw => by (try dsimp only at hSw); go_simp <;> first | rfl | assumption | (simp; omega) | omega⟩) (by assumption) ?_
        try simp only [List.getElem_toArray, List.getElem_cons_zero, List.getElem_cons_succ, Act.put, List.setIfInBounds_toArray, List.set_cons_zero, List.set_cons_succ]
        refine wpAnyH_take (i := 12) (v := (.int .i64 k)) rfl (by kernel_rfl) (by kernel_rfl) (by kernel_rfl) (fun _ _ _ h => h) (Or.inl ⟨by rfl, fun w hSw => by (try dsimp only at hSw); go_simp <;> first | rfl | assumption | (simp; omega) | omega⟩) (by assumption) ?_
        try simp only [List.getElem_toArray, List.getElem_cons_zero, List.getElem_cons_succ, Act.put, List.setIfInBounds_toArray, List.set_cons_zero, List.set_cons_succ]
        refine wpAnyH_take (i := 13) (v := (.pointer (some ⟨g, k * 5, none⟩))) rfl (by kernel_rfl) (by kernel_rfl) (by kernel_rfl) (fun _ _ _ h => h) (Or.inl ⟨by rfl, fun w hSw => by (try dsimp only at hSw); go_simp <;> first | rfl | assumption | (simp; omega) | omega⟩) (by assumption) ?_
        try simp only [List.getElem_toArray, List.getElem_cons_zero, List.getElem_cons_succ, Act.put, List.setIfInBounds_toArray, List.set_cons_zero, List.set_cons_succ]
        refine wpAnyH_take (i := 14) (v := (.pointer (some ⟨g, k * 5, none⟩))) rfl (by kernel_rfl) (by kernel_rfl) (by kernel_rfl) (fun _ _ _ h => h) (Or.inl ⟨by rfl, fun w hSw => by (try dsimp only at hSw); go_simp <;> first | rfl | assumption | (simp; omega) | omega⟩) (by assumption) ?_
        try simp only [List.getElem_toArray, List.getElem_cons_zero, List.getElem_cons_succ, Act.put, List.setIfInBounds_toArray, List.set_cons_zero, List.set_cons_succ]
        refine wpAnyH_take (i := 15) (v := (.int .i64 J)) rfl (by kernel_rfl) (by kernel_rfl) (by kernel_rfl) (fun _ _ _ h => h) (Or.inl ⟨by rfl, fun w hSw => by (try dsimp only at hSw); go_simp <;> first | rfl | assumption | (simp; omega) | omega⟩) (by assumption) ?_
        try simp only [List.getElem_toArray, List.getElem_cons_zero, List.getElem_cons_succ, Act.put, List.setIfInBounds_toArray, List.set_cons_zero, List.set_cons_succ]
        refine wpAnyH_take (i := 16) (v := (.pointer (some ⟨I, 0, none⟩))) rfl (by kernel_rfl) (by kernel_rfl) (by kernel_rfl) (fun _ _ _ h => h) (Or.inl ⟨by rfl, fun w hSw => by (try dsimp only at hSw); go_simp <;> first | rfl | assumption | (simp; omega) | omega⟩) (by assumption) ?_
        try simp only [List.getElem_toArray, List.getElem_cons_zero, List.getElem_cons_succ, Act.put, List.setIfInBounds_toArray, List.set_cons_zero, List.set_cons_succ]
        refine wpAnyH_take (i := 17) (v := (.int .i64 I0)) rfl (by kernel_rfl) (by kernel_rfl) (by kernel_rfl) (fun _ _ _ h => h) (Or.inl ⟨by rfl, fun w hSw => by (try dsimp only at hSw); go_simp <;> first | rfl | assumption | (simp; omega) | omega⟩) (by assumption) ?_
        try simp only [List.getElem_toArray, List.getElem_cons_zero, List.getElem_cons_succ, Act.put, List.setIfInBounds_toArray, List.set_cons_zero, List.set_cons_succ]
        refine wpAnyH_take (i := 18) (v := (.bool true)) rfl (by kernel_rfl) (by kernel_rfl) (by kernel_rfl) (fun _ _ _ h => h) (Or.inl ⟨by rfl, fun w hSw => by (try dsimp only at hSw); go_simp <;> first | rfl | assumption | (simp; omega) | omega⟩) (by assumption) ?_
        try simp only [List.getElem_toArray, List.getElem_cons_zero, List.getElem_cons_succ, Act.put, List.setIfInBounds_toArray, List.set_cons_zero, List.set_cons_succ]
        refine wpAnyH_take (i := 19) (v := (.bool true)) rfl (by kernel_rfl) (by kernel_rfl) (by kernel_rfl) (fun _ _ _ h => h) (Or.inl ⟨by rfl, fun w hSw => by (try dsimp only at hSw); go_simp <;> first | rfl | assumption | (simp; omega) | omega⟩) (by assumption) ?_
        try simp only [List.getElem_toArray, List.getElem_cons_zero, List.getElem_cons_succ, Act.put, List.setIfInBounds_toArray, List.set_cons_zero, List.set_cons_succ]
        refine wpAnyH_done (by kernel_rfl) ?_ _
        go_wp2_with fail
        go_meet
        exact ⟨rfl, rfl⟩
      · obtain rfl : z = false := no_bool HZ.out (fun e => hj (by rw [← hJ]; exact e.2))
        clear h3 b3 hF hJ HZ
        refine wp_region_held_drew (S := (fun w' => w'.cell? ⟨m, 0, none⟩ = some (.slice (some ⟨g, 0, none⟩) n c) ∧ w'.cell? ⟨g, k * 5, none⟩ = some (.int .i64 J) ∧ w'.cell? ⟨I, 0, none⟩ = some (.int .i64 I0))) (by kernel_rfl) ⟨a0, hc0, d0⟩ (fun hHeld => ?_)
        refine wpAnyH_take (i := 0) (v := (.int .i64 k)) rfl (by kernel_rfl) (by kernel_rfl) (by kernel_rfl) (fun _ _ _ h => h) (Or.inl ⟨by rfl, fun w hSw => by (try dsimp only at hSw); go_simp <;> first | rfl | assumption | (simp; omega) | omega⟩) (by assumption) ?_
        try simp only [List.getElem_toArray, List.getElem_cons_zero, List.getElem_cons_succ, Act.put, List.setIfInBounds_toArray, List.set_cons_zero, List.set_cons_succ]
        refine wpAnyH_take (i := 1) (v := (.pointer (some ⟨m, 0, none⟩))) rfl (by kernel_rfl) (by kernel_rfl) (by kernel_rfl) (fun _ _ _ h => h) (Or.inl ⟨by rfl, fun w hSw => by (try dsimp only at hSw); go_simp <;> first | rfl | assumption | (simp; omega) | omega⟩) (by assumption) ?_
        try simp only [List.getElem_toArray, List.getElem_cons_zero, List.getElem_cons_succ, Act.put, List.setIfInBounds_toArray, List.set_cons_zero, List.set_cons_succ]
        refine wpAnyH_take (i := 2) (v := (.pointer (some ⟨m, 0, none⟩))) rfl (by kernel_rfl) (by kernel_rfl) (by kernel_rfl) (fun _ _ _ h => h) (Or.inl ⟨by rfl, fun w hSw => by (try dsimp only at hSw); go_simp <;> first | rfl | assumption | (simp; omega) | omega⟩) (by assumption) ?_
        try simp only [List.getElem_toArray, List.getElem_cons_zero, List.getElem_cons_succ, Act.put, List.setIfInBounds_toArray, List.set_cons_zero, List.set_cons_succ]
        refine wpAnyH_take (i := 3) (v := (.pointer (some ⟨m, 0, none⟩))) rfl (by kernel_rfl) (by kernel_rfl) (by kernel_rfl) (fun _ _ _ h => h) (Or.inl ⟨by rfl, fun w hSw => by (try dsimp only at hSw); go_simp <;> first | rfl | assumption | (simp; omega) | omega⟩) (by assumption) ?_
        try simp only [List.getElem_toArray, List.getElem_cons_zero, List.getElem_cons_succ, Act.put, List.setIfInBounds_toArray, List.set_cons_zero, List.set_cons_succ]
        refine wpAnyH_take (i := 4) (v := (.slice (some ⟨g, 0, none⟩) n c)) rfl (by kernel_rfl) (by kernel_rfl) (by kernel_rfl) (fun _ _ _ h => h) (Or.inl ⟨by rfl, fun w hSw => by (try dsimp only at hSw); go_simp <;> first | rfl | assumption | (simp; omega) | omega⟩) (by assumption) ?_
        try simp only [List.getElem_toArray, List.getElem_cons_zero, List.getElem_cons_succ, Act.put, List.setIfInBounds_toArray, List.set_cons_zero, List.set_cons_succ]
        refine wpAnyH_take (i := 5) (v := (.int .i64 (n : Int))) rfl (by kernel_rfl) (by kernel_rfl) (by kernel_rfl) (fun _ _ _ h => h) (Or.inl ⟨by rfl, fun w hSw => by (try dsimp only at hSw); go_simp <;> first | rfl | assumption | (simp; omega) | omega⟩) (by assumption) ?_
        try simp only [List.getElem_toArray, List.getElem_cons_zero, List.getElem_cons_succ, Act.put, List.setIfInBounds_toArray, List.set_cons_zero, List.set_cons_succ]
        refine wpAnyH_take (i := 6) (v := (.bool true)) rfl (by kernel_rfl) (by kernel_rfl) (by kernel_rfl) (fun _ _ _ h => h) (Or.inl ⟨by rfl, fun w hSw => by (try dsimp only at hSw); go_simp <;> first | rfl | assumption | (simp; omega) | omega⟩) (by assumption) ?_
        try simp only [List.getElem_toArray, List.getElem_cons_zero, List.getElem_cons_succ, Act.put, List.setIfInBounds_toArray, List.set_cons_zero, List.set_cons_succ]
        refine wpAnyH_take (i := 7) (v := (.bool true)) rfl (by kernel_rfl) (by kernel_rfl) (by kernel_rfl) (fun _ _ _ h => h) (Or.inl ⟨by rfl, fun w hSw => by (try dsimp only at hSw); go_simp <;> first | rfl | assumption | (simp; omega) | omega⟩) (by assumption) ?_
        try simp only [List.getElem_toArray, List.getElem_cons_zero, List.getElem_cons_succ, Act.put, List.setIfInBounds_toArray, List.set_cons_zero, List.set_cons_succ]
        refine wpAnyH_take (i := 8) (v := (.pointer (some ⟨m, 0, none⟩))) rfl (by kernel_rfl) (by kernel_rfl) (by kernel_rfl) (fun _ _ _ h => h) (Or.inl ⟨by rfl, fun w hSw => by (try dsimp only at hSw); go_simp <;> first | rfl | assumption | (simp; omega) | omega⟩) (by assumption) ?_
        try simp only [List.getElem_toArray, List.getElem_cons_zero, List.getElem_cons_succ, Act.put, List.setIfInBounds_toArray, List.set_cons_zero, List.set_cons_succ]
        refine wpAnyH_take (i := 9) (v := (.pointer (some ⟨m, 0, none⟩))) rfl (by kernel_rfl) (by kernel_rfl) (by kernel_rfl) (fun _ _ _ h => h) (Or.inl ⟨by rfl, fun w hSw => by (try dsimp only at hSw); go_simp <;> first | rfl | assumption | (simp; omega) | omega⟩) (by assumption) ?_
        try simp only [List.getElem_toArray, List.getElem_cons_zero, List.getElem_cons_succ, Act.put, List.setIfInBounds_toArray, List.set_cons_zero, List.set_cons_succ]
        refine wpAnyH_take (i := 10) (v := (.pointer (some ⟨m, 0, none⟩))) rfl (by kernel_rfl) (by kernel_rfl) (by kernel_rfl) (fun _ _ _ h => h) (Or.inl ⟨by rfl, fun w hSw => by (try dsimp only at hSw); go_simp <;> first | rfl | assumption | (simp; omega) | omega⟩) (by assumption) ?_
        try simp only [List.getElem_toArray, List.getElem_cons_zero, List.getElem_cons_succ, Act.put, List.setIfInBounds_toArray, List.set_cons_zero, List.set_cons_succ]
        refine wpAnyH_take (i := 11) (v := (.slice (some ⟨g, 0, none⟩) n c)) rfl (by kernel_rfl) (by kernel_rfl) (by kernel_rfl) (fun _ _ _ h => h) (Or.inl ⟨by rfl, fun w hSw => by (try dsimp only at hSw); go_simp <;> first | rfl | assumption | (simp; omega) | omega⟩) (by assumption) ?_
        try simp only [List.getElem_toArray, List.getElem_cons_zero, List.getElem_cons_succ, Act.put, List.setIfInBounds_toArray, List.set_cons_zero, List.set_cons_succ]
        refine wpAnyH_take (i := 12) (v := (.int .i64 k)) rfl (by kernel_rfl) (by kernel_rfl) (by kernel_rfl) (fun _ _ _ h => h) (Or.inl ⟨by rfl, fun w hSw => by (try dsimp only at hSw); go_simp <;> first | rfl | assumption | (simp; omega) | omega⟩) (by assumption) ?_
        try simp only [List.getElem_toArray, List.getElem_cons_zero, List.getElem_cons_succ, Act.put, List.setIfInBounds_toArray, List.set_cons_zero, List.set_cons_succ]
        refine wpAnyH_take (i := 13) (v := (.pointer (some ⟨g, k * 5, none⟩))) rfl (by kernel_rfl) (by kernel_rfl) (by kernel_rfl) (fun _ _ _ h => h) (Or.inl ⟨by rfl, fun w hSw => by (try dsimp only at hSw); go_simp <;> first | rfl | assumption | (simp; omega) | omega⟩) (by assumption) ?_
        try simp only [List.getElem_toArray, List.getElem_cons_zero, List.getElem_cons_succ, Act.put, List.setIfInBounds_toArray, List.set_cons_zero, List.set_cons_succ]
        refine wpAnyH_take (i := 14) (v := (.pointer (some ⟨g, k * 5, none⟩))) rfl (by kernel_rfl) (by kernel_rfl) (by kernel_rfl) (fun _ _ _ h => h) (Or.inl ⟨by rfl, fun w hSw => by (try dsimp only at hSw); go_simp <;> first | rfl | assumption | (simp; omega) | omega⟩) (by assumption) ?_
        try simp only [List.getElem_toArray, List.getElem_cons_zero, List.getElem_cons_succ, Act.put, List.setIfInBounds_toArray, List.set_cons_zero, List.set_cons_succ]
        refine wpAnyH_take (i := 15) (v := (.int .i64 J)) rfl (by kernel_rfl) (by kernel_rfl) (by kernel_rfl) (fun _ _ _ h => h) (Or.inl ⟨by rfl, fun w hSw => by (try dsimp only at hSw); go_simp <;> first | rfl | assumption | (simp; omega) | omega⟩) (by assumption) ?_
        try simp only [List.getElem_toArray, List.getElem_cons_zero, List.getElem_cons_succ, Act.put, List.setIfInBounds_toArray, List.set_cons_zero, List.set_cons_succ]
        refine wpAnyH_take (i := 16) (v := (.pointer (some ⟨I, 0, none⟩))) rfl (by kernel_rfl) (by kernel_rfl) (by kernel_rfl) (fun _ _ _ h => h) (Or.inl ⟨by rfl, fun w hSw => by (try dsimp only at hSw); go_simp <;> first | rfl | assumption | (simp; omega) | omega⟩) (by assumption) ?_
        try simp only [List.getElem_toArray, List.getElem_cons_zero, List.getElem_cons_succ, Act.put, List.setIfInBounds_toArray, List.set_cons_zero, List.set_cons_succ]
        refine wpAnyH_take (i := 17) (v := (.int .i64 I0)) rfl (by kernel_rfl) (by kernel_rfl) (by kernel_rfl) (fun _ _ _ h => h) (Or.inl ⟨by rfl, fun w hSw => by (try dsimp only at hSw); go_simp <;> first | rfl | assumption | (simp; omega) | omega⟩) (by assumption) ?_
        try simp only [List.getElem_toArray, List.getElem_cons_zero, List.getElem_cons_succ, Act.put, List.setIfInBounds_toArray, List.set_cons_zero, List.set_cons_succ]
        refine wpAnyH_take (i := 18) (v := (.bool false)) rfl (by kernel_rfl) (by kernel_rfl) (by kernel_rfl) (fun _ _ _ h => h) (Or.inl ⟨by rfl, fun w hSw => by (try dsimp only at hSw); go_simp <;> first | rfl | assumption | (simp; omega) | omega⟩) (by assumption) ?_
        try simp only [List.getElem_toArray, List.getElem_cons_zero, List.getElem_cons_succ, Act.put, List.setIfInBounds_toArray, List.set_cons_zero, List.set_cons_succ]
        refine wpAnyH_take (i := 19) (v := (.bool false)) rfl (by kernel_rfl) (by kernel_rfl) (by kernel_rfl) (fun _ _ _ h => h) (Or.inl ⟨by rfl, fun w hSw => by (try dsimp only at hSw); go_simp <;> first | rfl | assumption | (simp; omega) | omega⟩) (by assumption) ?_
        try simp only [List.getElem_toArray, List.getElem_cons_zero, List.getElem_cons_succ, Act.put, List.setIfInBounds_toArray, List.set_cons_zero, List.set_cons_succ]
        refine wpAnyH_done (by kernel_rfl) ?_ _
        go_wp2_with fail
        go_meet
        exact ⟨rfl, rfl⟩
    case rest =>
    obtain ⟨rfl, rfl⟩ := hcut
    cases z
    case true =>
      have hs := hz.1 rfl
      have hk1 : k + 1 ≤ P := by
        have := pos_step (l := l) (i := x.id) (k := k) (by rw [HP.out]; exact hk) (by rw [HN.out]; exact hs.1) (by rw [HI0.out]; exact hs.2)
        rw [HP.out] at this
        exact this
      have hF' := Bd hF
      have hkn := hs.1
      clear hz hs HZ a0 d0 h3 b3
      go_wp2_with fail
      exact ⟨⟨k + 1, hk1, by simp only [Int.natCast_add, Int.cast_ofNat_Int], hF'⟩, by simp [intOf]; omega⟩
    case false =>
      obtain rfl : k = P := by
        have := pos_stop (l := l) (i := x.id) (k := k) (by rw [HP.out]; exact hk) (fun e => absurd (hz.2 ⟨by rw [← HN.out]; exact e.1, by rw [← HI0.out]; exact e.2⟩) (by decide))
        rw [HP.out] at this
        exact this
      clear hz HZ a0 d0 hk
      have h4 := h3.keep (Bd B0)
      have b4 := Blk.drew b3
      have B4 := Bt B2 (Bd hF)
      clear h3 b3 hF
      obtain ⟨zz, hzz⟩ := has_bool (Hits l x.id)
      have HZ := Lib.hid hzz
      generalize wr.drew = w4 at *
      have a0 := h4.1.cell 0
      have d0 := b4.cell 0
      simp at a0 d0
      go_upto_region 6 with fail
      go_cut [62] (fun s wx => s = .bool zz ∧ w4.drew = wx)
      case first =>
        clear hzz
        by_cases hkn : k < n
        case neg =>
          obtain rfl : zz = false := no_bool HZ.out (fun e => by have := e.1; rw [HP.out, HN.out] at this; exact hkn this)
          refine wp_region_held_drew (S := (fun w' => w'.cell? ⟨m, 0, none⟩ = some (.slice A n c))) (by kernel_rfl) a0 (fun hHeld => ?_)
          refine wpAnyH_take (i := 0) (v := (.int .i64 k)) rfl (by kernel_rfl) (by kernel_rfl) (by kernel_rfl) (fun _ _ _ h => h) (Or.inl ⟨by rfl, fun w hSw => by (try dsimp only at hSw); go_simp <;> first | rfl | assumption | (simp; omega) | omega⟩) (by assumption) ?_
          try simp only [List.getElem_toArray, List.getElem_cons_zero, List.getElem_cons_succ, Act.put, List.setIfInBounds_toArray, List.set_cons_zero, List.set_cons_succ]
          refine wpAnyH_take (i := 1) (v := (.pointer (some ⟨m, 0, none⟩))) rfl (by kernel_rfl) (by kernel_rfl) (by kernel_rfl) (fun _ _ _ h => h) (Or.inl ⟨by rfl, fun w hSw => by (try dsimp only at hSw); go_simp <;> first | rfl | assumption | (simp; omega) | omega⟩) (by assumption) ?_
          try simp only [List.getElem_toArray, List.getElem_cons_zero, List.getElem_cons_succ, Act.put, List.setIfInBounds_toArray, List.set_cons_zero, List.set_cons_succ]
          refine wpAnyH_take (i := 2) (v := (.pointer (some ⟨m, 0, none⟩))) rfl (by kernel_rfl) (by kernel_rfl) (by kernel_rfl) (fun _ _ _ h => h) (Or.inl ⟨by rfl, fun w hSw => by (try dsimp only at hSw); go_simp <;> first | rfl | assumption | (simp; omega) | omega⟩) (by assumption) ?_
          try simp only [List.getElem_toArray, List.getElem_cons_zero, List.getElem_cons_succ, Act.put, List.setIfInBounds_toArray, List.set_cons_zero, List.set_cons_succ]
          refine wpAnyH_take (i := 3) (v := (.pointer (some ⟨m, 0, none⟩))) rfl (by kernel_rfl) (by kernel_rfl) (by kernel_rfl) (fun _ _ _ h => h) (Or.inl ⟨by rfl, fun w hSw => by (try dsimp only at hSw); go_simp <;> first | rfl | assumption | (simp; omega) | omega⟩) (by assumption) ?_
          try simp only [List.getElem_toArray, List.getElem_cons_zero, List.getElem_cons_succ, Act.put, List.setIfInBounds_toArray, List.set_cons_zero, List.set_cons_succ]
          refine wpAnyH_take (i := 4) (v := (.slice A n c)) rfl (by kernel_rfl) (by kernel_rfl) (by kernel_rfl) (fun _ _ _ h => h) (Or.inl ⟨by rfl, fun w hSw => by (try dsimp only at hSw); go_simp <;> first | rfl | assumption | (simp; omega) | omega⟩) (by assumption) ?_
          try simp only [List.getElem_toArray, List.getElem_cons_zero, List.getElem_cons_succ, Act.put, List.setIfInBounds_toArray, List.set_cons_zero, List.set_cons_succ]
          refine wpAnyH_take (i := 5) (v := (.int .i64 (n : Int))) rfl (by kernel_rfl) (by kernel_rfl) (by kernel_rfl) (fun _ _ _ h => h) (Or.inl ⟨by rfl, fun w hSw => by (try dsimp only at hSw); go_simp <;> first | rfl | assumption | (simp; omega) | omega⟩) (by assumption) ?_
          try simp only [List.getElem_toArray, List.getElem_cons_zero, List.getElem_cons_succ, Act.put, List.setIfInBounds_toArray, List.set_cons_zero, List.set_cons_succ]
          refine wpAnyH_take (i := 6) (v := (.bool false)) rfl (by kernel_rfl) (by kernel_rfl) (by kernel_rfl) (fun _ _ _ h => h) (Or.inl ⟨by rfl, fun w hSw => by (try dsimp only at hSw); go_simp <;> first | rfl | assumption | (simp; omega) | omega⟩) (by assumption) ?_
          try simp only [List.getElem_toArray, List.getElem_cons_zero, List.getElem_cons_succ, Act.put, List.setIfInBounds_toArray, List.set_cons_zero, List.set_cons_succ]
          refine wpAnyH_take (i := 7) (v := (.bool false)) rfl (by kernel_rfl) (by kernel_rfl) (by kernel_rfl) (fun _ _ _ h => h) (Or.inl ⟨by rfl, fun w hSw => by (try dsimp only at hSw); go_simp <;> first | rfl | assumption | (simp; omega) | omega⟩) (by assumption) ?_
          try simp only [List.getElem_toArray, List.getElem_cons_zero, List.getElem_cons_succ, Act.put, List.setIfInBounds_toArray, List.set_cons_zero, List.set_cons_succ]
          refine wpAnyH_take (i := 8) (v := undef) rfl (by kernel_rfl) (by kernel_rfl) (by kernel_rfl) (fun _ _ _ h => h) (Or.inr ⟨by rfl, rfl⟩) (by assumption) ?_
          try simp only [List.getElem_toArray, List.getElem_cons_zero, List.getElem_cons_succ, Act.put, List.setIfInBounds_toArray, List.set_cons_zero, List.set_cons_succ]
          refine wpAnyH_take (i := 9) (v := undef) rfl (by kernel_rfl) (by kernel_rfl) (by kernel_rfl) (fun _ _ _ h => h) (Or.inr ⟨by rfl, rfl⟩) (by assumption) ?_
          try simp only [List.getElem_toArray, List.getElem_cons_zero, List.getElem_cons_succ, Act.put, List.setIfInBounds_toArray, List.set_cons_zero, List.set_cons_succ]
          refine wpAnyH_take (i := 10) (v := undef) rfl (by kernel_rfl) (by kernel_rfl) (by kernel_rfl) (fun _ _ _ h => h) (Or.inr ⟨by rfl, rfl⟩) (by assumption) ?_
          try simp only [List.getElem_toArray, List.getElem_cons_zero, List.getElem_cons_succ, Act.put, List.setIfInBounds_toArray, List.set_cons_zero, List.set_cons_succ]
          refine wpAnyH_take (i := 11) (v := undef) rfl (by kernel_rfl) (by kernel_rfl) (by kernel_rfl) (fun _ _ _ h => h) (Or.inr ⟨by rfl, rfl⟩) (by assumption) ?_
          try simp only [List.getElem_toArray, List.getElem_cons_zero, List.getElem_cons_succ, Act.put, List.setIfInBounds_toArray, List.set_cons_zero, List.set_cons_succ]
          refine wpAnyH_take (i := 12) (v := undef) rfl (by kernel_rfl) (by kernel_rfl) (by kernel_rfl) (fun _ _ _ h => h) (Or.inr ⟨by rfl, rfl⟩) (by assumption) ?_
          try simp only [List.getElem_toArray, List.getElem_cons_zero, List.getElem_cons_succ, Act.put, List.setIfInBounds_toArray, List.set_cons_zero, List.set_cons_succ]
          refine wpAnyH_take (i := 13) (v := undef) rfl (by kernel_rfl) (by kernel_rfl) (by kernel_rfl) (fun _ _ _ h => h) (Or.inr ⟨by rfl, rfl⟩) (by assumption) ?_
          try simp only [List.getElem_toArray, List.getElem_cons_zero, List.getElem_cons_succ, Act.put, List.setIfInBounds_toArray, List.set_cons_zero, List.set_cons_succ]
          refine wpAnyH_take (i := 14) (v := undef) rfl (by kernel_rfl) (by kernel_rfl) (by kernel_rfl) (fun _ _ _ h => h) (Or.inr ⟨by rfl, rfl⟩) (by assumption) ?_
          try simp only [List.getElem_toArray, List.getElem_cons_zero, List.getElem_cons_succ, Act.put, List.setIfInBounds_toArray, List.set_cons_zero, List.set_cons_succ]
          refine wpAnyH_take (i := 15) (v := undef) rfl (by kernel_rfl) (by kernel_rfl) (by kernel_rfl) (fun _ _ _ h => h) (Or.inr ⟨by rfl, rfl⟩) (by assumption) ?_
          try simp only [List.getElem_toArray, List.getElem_cons_zero, List.getElem_cons_succ, Act.put, List.setIfInBounds_toArray, List.set_cons_zero, List.set_cons_succ]
          refine wpAnyH_take (i := 16) (v := undef) rfl (by kernel_rfl) (by kernel_rfl) (by kernel_rfl) (fun _ _ _ h => h) (Or.inr ⟨by rfl, rfl⟩) (by assumption) ?_
          try simp only [List.getElem_toArray, List.getElem_cons_zero, List.getElem_cons_succ, Act.put, List.setIfInBounds_toArray, List.set_cons_zero, List.set_cons_succ]
          refine wpAnyH_take (i := 17) (v := undef) rfl (by kernel_rfl) (by kernel_rfl) (by kernel_rfl) (fun _ _ _ h => h) (Or.inr ⟨by rfl, rfl⟩) (by assumption) ?_
          try simp only [List.getElem_toArray, List.getElem_cons_zero, List.getElem_cons_succ, Act.put, List.setIfInBounds_toArray, List.set_cons_zero, List.set_cons_succ]
          refine wpAnyH_take (i := 18) (v := undef) rfl (by kernel_rfl) (by kernel_rfl) (by kernel_rfl) (fun _ _ _ h => h) (Or.inr ⟨by rfl, rfl⟩) (by assumption) ?_
          try simp only [List.getElem_toArray, List.getElem_cons_zero, List.getElem_cons_succ, Act.put, List.setIfInBounds_toArray, List.set_cons_zero, List.set_cons_succ]
          refine wpAnyH_take (i := 19) (v := (.bool false)) rfl (by kernel_rfl) (by kernel_rfl) (by kernel_rfl) (fun _ _ _ h => h) (Or.inl ⟨by rfl, fun w hSw => by (try dsimp only at hSw); go_simp <;> first | rfl | assumption | (simp; omega) | omega⟩) (by assumption) ?_
          try simp only [List.getElem_toArray, List.getElem_cons_zero, List.getElem_cons_succ, Act.put, List.setIfInBounds_toArray, List.set_cons_zero, List.set_cons_succ]
          refine wpAnyH_done (by kernel_rfl) ?_ _
          go_wp2_with fail
          go_meet
          exact ⟨rfl, rfl⟩
        obtain ⟨g, c0, e, hc0⟩ : ∃ g c0, Value.slice A n c = .slice (some ⟨g, 0, none⟩) n c0 ∧ w4.cell? ⟨g, k * 5, none⟩ = some (.int .i64 (itAt l k).id) := by
          rcases h4.2.2 with ⟨-, e0⟩ | ⟨g, cap, cur, e0, -, hg, -⟩
          · have := HN.out; omega
          · refine ⟨g, cap, by rw [e0, HN.out], ?_⟩
            have hh := h4.2
            rw [e0] at hh
            rw [World.ownsRow.cellAt hh (k * 5) (by have := HN.out; omega)]
            exact (itc_at l k (by have := HN.out; omega)).1
        injection e with e1 _ e3
        subst e1 e3
        obtain ⟨J, hJ⟩ : ∃ J, (itAt l k).id = J := ⟨_, rfl⟩
        rw [hJ] at hc0
        by_cases hj : J = I0
        · obtain rfl : zz = true := HZ.out.2 ⟨by rw [HP.out, HN.out]; exact hkn, by rw [HP.out, HI0.out, hJ]; exact hj⟩
          subst hj
          clear h4 b4 hJ HZ
          refine wp_region_held_drew (S := (fun w' => w'.cell? ⟨m, 0, none⟩ = some (.slice (some ⟨g, 0, none⟩) n c) ∧ w'.cell? ⟨g, k * 5, none⟩ = some (.int .i64 J) ∧ w'.cell? ⟨I, 0, none⟩ = some (.int .i64 J))) (by kernel_rfl) ⟨a0, hc0, d0⟩ (fun hHeld => ?_)
          refine wpAnyH_take (i := 0) (v := (.int .i64 k)) rfl (by kernel_rfl) (by kernel_rfl) (by kernel_rfl) (fun _ _ _ h => h) (Or.inl ⟨by rfl, fun w hSw => by (try dsimp only at hSw); go_simp <;> first | rfl | assumption | (simp; omega) | omega⟩) (by assumption) ?_
          try simp only [List.getElem_toArray, List.getElem_cons_zero, List.getElem_cons_succ, Act.put, List.setIfInBounds_toArray, List.set_cons_zero, List.set_cons_succ]
          refine wpAnyH_take (i := 1) (v := (.pointer (some ⟨m, 0, none⟩))) rfl (by kernel_rfl) (by kernel_rfl) (by kernel_rfl) (fun _ _ _ h => h) (Or.inl ⟨by rfl, fun w hSw => by (try dsimp only at hSw); go_simp <;> first | rfl | assumption | (simp; omega) | omega⟩) (by assumption) ?_
          try simp only [List.getElem_toArray, List.getElem_cons_zero, List.getElem_cons_succ, Act.put, List.setIfInBounds_toArray, List.set_cons_zero, List.set_cons_succ]
          refine wpAnyH_take (i := 2) (v := (.pointer (some ⟨m, 0, none⟩))) rfl (by kernel_rfl) (by kernel_rfl) (by kernel_rfl) (fun _ _ _ h => h) (Or.inl ⟨by rfl, fun w hSw => by (try dsimp only at hSw); go_simp <;> first | rfl | assumption | (simp; omega) | omega⟩) (by assumption) ?_
          try simp only [List.getElem_toArray, List.getElem_cons_zero, List.getElem_cons_succ, Act.put, List.setIfInBounds_toArray, List.set_cons_zero, List.set_cons_succ]
          refine wpAnyH_take (i := 3) (v := (.pointer (some ⟨m, 0, none⟩))) rfl (by kernel_rfl) (by kernel_rfl) (by kernel_rfl) (fun _ _ _ h => h) (Or.inl ⟨by rfl, fun w hSw => by (try dsimp only at hSw); go_simp <;> first | rfl | assumption | (simp; omega) | omega⟩) (by assumption) ?_
          try simp only [List.getElem_toArray, List.getElem_cons_zero, List.getElem_cons_succ, Act.put, List.setIfInBounds_toArray, List.set_cons_zero, List.set_cons_succ]
          refine wpAnyH_take (i := 4) (v := (.slice (some ⟨g, 0, none⟩) n c)) rfl (by kernel_rfl) (by kernel_rfl) (by kernel_rfl) (fun _ _ _ h => h) (Or.inl ⟨by rfl, fun w hSw => by (try dsimp only at hSw); go_simp <;> first | rfl | assumption | (simp; omega) | omega⟩) (by assumption) ?_
          try simp only [List.getElem_toArray, List.getElem_cons_zero, List.getElem_cons_succ, Act.put, List.setIfInBounds_toArray, List.set_cons_zero, List.set_cons_succ]
          refine wpAnyH_take (i := 5) (v := (.int .i64 (n : Int))) rfl (by kernel_rfl) (by kernel_rfl) (by kernel_rfl) (fun _ _ _ h => h) (Or.inl ⟨by rfl, fun w hSw => by (try dsimp only at hSw); go_simp <;> first | rfl | assumption | (simp; omega) | omega⟩) (by assumption) ?_
          try simp only [List.getElem_toArray, List.getElem_cons_zero, List.getElem_cons_succ, Act.put, List.setIfInBounds_toArray, List.set_cons_zero, List.set_cons_succ]
          refine wpAnyH_take (i := 6) (v := (.bool true)) rfl (by kernel_rfl) (by kernel_rfl) (by kernel_rfl) (fun _ _ _ h => h) (Or.inl ⟨by rfl, fun w hSw => by (try dsimp only at hSw); go_simp <;> first | rfl | assumption | (simp; omega) | omega⟩) (by assumption) ?_
          try simp only [List.getElem_toArray, List.getElem_cons_zero, List.getElem_cons_succ, Act.put, List.setIfInBounds_toArray, List.set_cons_zero, List.set_cons_succ]
          refine wpAnyH_take (i := 7) (v := (.bool true)) rfl (by kernel_rfl) (by kernel_rfl) (by kernel_rfl) (fun _ _ _ h => h) (Or.inl ⟨by rfl, fun w hSw => by (try dsimp only at hSw); go_simp <;> first | rfl | assumption | (simp; omega) | omega⟩) (by assumption) ?_
          try simp only [List.getElem_toArray, List.getElem_cons_zero, List.getElem_cons_succ, Act.put, List.setIfInBounds_toArray, List.set_cons_zero, List.set_cons_succ]
          refine wpAnyH_take (i := 8) (v := (.pointer (some ⟨m, 0, none⟩))) rfl (by kernel_rfl) (by kernel_rfl) (by kernel_rfl) (fun _ _ _ h => h) (Or.inl ⟨by rfl, fun w hSw => by (try dsimp only at hSw); go_simp <;> first | rfl | assumption | (simp; omega) | omega⟩) (by assumption) ?_
          try simp only [List.getElem_toArray, List.getElem_cons_zero, List.getElem_cons_succ, Act.put, List.setIfInBounds_toArray, List.set_cons_zero, List.set_cons_succ]
          refine wpAnyH_take (i := 9) (v := (.pointer (some ⟨m, 0, none⟩))) rfl (by kernel_rfl) (by kernel_rfl) (by kernel_rfl) (fun _ _ _ h => h) (Or.inl ⟨by rfl, fun w hSw => by (try dsimp only at hSw); go_simp <;> first | rfl | assumption | (simp; omega) | omega⟩) (by assumption) ?_
          try simp only [List.getElem_toArray, List.getElem_cons_zero, List.getElem_cons_succ, Act.put, List.setIfInBounds_toArray, List.set_cons_zero, List.set_cons_succ]
          refine wpAnyH_take (i := 10) (v := (.pointer (some ⟨m, 0, none⟩))) rfl (by kernel_rfl) (by kernel_rfl) (by kernel_rfl) (fun _ _ _ h => h) (Or.inl ⟨by rfl, fun w hSw => by (try dsimp only at hSw); go_simp <;> first | rfl | assumption | (simp; omega) | omega⟩) (by assumption) ?_
          try simp only [List.getElem_toArray, List.getElem_cons_zero, List.getElem_cons_succ, Act.put, List.setIfInBounds_toArray, List.set_cons_zero, List.set_cons_succ]
          refine wpAnyH_take (i := 11) (v := (.slice (some ⟨g, 0, none⟩) n c)) rfl (by kernel_rfl) (by kernel_rfl) (by kernel_rfl) (fun _ _ _ h => h) (Or.inl ⟨by rfl, fun w hSw => by (try dsimp only at hSw); go_simp <;> first | rfl | assumption | (simp; omega) | omega⟩) (by assumption) ?_
          try simp only [List.getElem_toArray, List.getElem_cons_zero, List.getElem_cons_succ, Act.put, List.setIfInBounds_toArray, List.set_cons_zero, List.set_cons_succ]
          refine wpAnyH_take (i := 12) (v := (.int .i64 k)) rfl (by kernel_rfl) (by kernel_rfl) (by kernel_rfl) (fun _ _ _ h => h) (Or.inl ⟨by rfl, fun w hSw => by (try dsimp only at hSw); go_simp <;> first | rfl | assumption | (simp; omega) | omega⟩) (by assumption) ?_
          try simp only [List.getElem_toArray, List.getElem_cons_zero, List.getElem_cons_succ, Act.put, List.setIfInBounds_toArray, List.set_cons_zero, List.set_cons_succ]
          refine wpAnyH_take (i := 13) (v := (.pointer (some ⟨g, k * 5, none⟩))) rfl (by kernel_rfl) (by kernel_rfl) (by kernel_rfl) (fun _ _ _ h => h) (Or.inl ⟨by rfl, fun w hSw => by (try dsimp only at hSw); go_simp <;> first | rfl | assumption | (simp; omega) | omega⟩) (by assumption) ?_
          try simp only [List.getElem_toArray, List.getElem_cons_zero, List.getElem_cons_succ, Act.put, List.setIfInBounds_toArray, List.set_cons_zero, List.set_cons_succ]
          refine wpAnyH_take (i := 14) (v := (.pointer (some ⟨g, k * 5, none⟩))) rfl (by kernel_rfl) (by kernel_rfl) (by kernel_rfl) (fun _ _ _ h => h) (Or.inl ⟨by rfl, fun w hSw => by (try dsimp only at hSw); go_simp <;> first | rfl | assumption | (simp; omega) | omega⟩) (by assumption) ?_
          try simp only [List.getElem_toArray, List.getElem_cons_zero, List.getElem_cons_succ, Act.put, List.setIfInBounds_toArray, List.set_cons_zero, List.set_cons_succ]
          refine wpAnyH_take (i := 15) (v := (.int .i64 J)) rfl (by kernel_rfl) (by kernel_rfl) (by kernel_rfl) (fun _ _ _ h => h) (Or.inl ⟨by rfl, fun w hSw => by (try dsimp only at hSw); go_simp <;> first | rfl | assumption | (simp; omega) | omega⟩) (by assumption) ?_
          try simp only [List.getElem_toArray, List.getElem_cons_zero, List.getElem_cons_succ, Act.put, List.setIfInBounds_toArray, List.set_cons_zero, List.set_cons_succ]
          refine wpAnyH_take (i := 16) (v := (.pointer (some ⟨I, 0, none⟩))) rfl (by kernel_rfl) (by kernel_rfl) (by kernel_rfl) (fun _ _ _ h => h) (Or.inl ⟨by rfl, fun w hSw => by (try dsimp only at hSw); go_simp <;> first | rfl | assumption | (simp; omega) | omega⟩) (by assumption) ?_
          try simp only [List.getElem_toArray, List.getElem_cons_zero, List.getElem_cons_succ, Act.put, List.setIfInBounds_toArray, List.set_cons_zero, List.set_cons_succ]
          refine wpAnyH_take (i := 17) (v := (.int .i64 J)) rfl (by kernel_rfl) (by kernel_rfl) (by kernel_rfl) (fun _ _ _ h => h) (Or.inl ⟨by rfl, fun w hSw => by (try dsimp only at hSw); go_simp <;> first | rfl | assumption | (simp; omega) | omega⟩) (by assumption) ?_
          try simp only [List.getElem_toArray, List.getElem_cons_zero, List.getElem_cons_succ, Act.put, List.setIfInBounds_toArray, List.set_cons_zero, List.set_cons_succ]
          refine wpAnyH_take (i := 18) (v := (.bool true)) rfl (by kernel_rfl) (by kernel_rfl) (by kernel_rfl) (fun _ _ _ h => h) (Or.inl ⟨by rfl, fun w hSw => by (try dsimp only at hSw); go_simp <;> first | rfl | assumption | (simp; omega) | omega⟩) (by assumption) ?_
          try simp only [List.getElem_toArray, List.getElem_cons_zero, List.getElem_cons_succ, Act.put, List.setIfInBounds_toArray, List.set_cons_zero, List.set_cons_succ]
          refine wpAnyH_take (i := 19) (v := (.bool true)) rfl (by kernel_rfl) (by kernel_rfl) (by kernel_rfl) (fun _ _ _ h => h) (Or.inl ⟨by rfl, fun w hSw => by (try dsimp only at hSw); go_simp <;> first | rfl | assumption | (simp; omega) | omega⟩) (by assumption) ?_
          try simp only [List.getElem_toArray, List.getElem_cons_zero, List.getElem_cons_succ, Act.put, List.setIfInBounds_toArray, List.set_cons_zero, List.set_cons_succ]
          refine wpAnyH_done (by kernel_rfl) ?_ _
          go_wp2_with fail
          go_meet
          exact ⟨rfl, rfl⟩
        · obtain rfl : zz = false := no_bool HZ.out (fun e => hj (by have := e.2; rw [HP.out, HI0.out, hJ] at this; exact this))
          have hjb : (J == I0) = false := by simpa using hj
          clear h4 b4 hJ HZ
          refine wp_region_held_drew (S := (fun w' => w'.cell? ⟨m, 0, none⟩ = some (.slice (some ⟨g, 0, none⟩) n c) ∧ w'.cell? ⟨g, k * 5, none⟩ = some (.int .i64 J) ∧ w'.cell? ⟨I, 0, none⟩ = some (.int .i64 I0))) (by kernel_rfl) ⟨a0, hc0, d0⟩ (fun hHeld => ?_)
          refine wpAnyH_take (i := 0) (v := (.int .i64 k)) rfl (by kernel_rfl) (by kernel_rfl) (by kernel_rfl) (fun _ _ _ h => h) (Or.inl ⟨by rfl, fun w hSw => by (try dsimp only at hSw); go_simp <;> first | rfl | assumption | (simp; omega) | omega⟩) (by assumption) ?_
          try simp only [List.getElem_toArray, List.getElem_cons_zero, List.getElem_cons_succ, Act.put, List.setIfInBounds_toArray, List.set_cons_zero, List.set_cons_succ]
          refine wpAnyH_take (i := 1) (v := (.pointer (some ⟨m, 0, none⟩))) rfl (by kernel_rfl) (by kernel_rfl) (by kernel_rfl) (fun _ _ _ h => h) (Or.inl ⟨by rfl, fun w hSw => by (try dsimp only at hSw); go_simp <;> first | rfl | assumption | (simp; omega) | omega⟩) (by assumption) ?_
          try simp only [List.getElem_toArray, List.getElem_cons_zero, List.getElem_cons_succ, Act.put, List.setIfInBounds_toArray, List.set_cons_zero, List.set_cons_succ]
          refine wpAnyH_take (i := 2) (v := (.pointer (some ⟨m, 0, none⟩))) rfl (by kernel_rfl) (by kernel_rfl) (by kernel_rfl) (fun _ _ _ h => h) (Or.inl ⟨by rfl, fun w hSw => by (try dsimp only at hSw); go_simp <;> first | rfl | assumption | (simp; omega) | omega⟩) (by assumption) ?_
          try simp only [List.getElem_toArray, List.getElem_cons_zero, List.getElem_cons_succ, Act.put, List.setIfInBounds_toArray, List.set_cons_zero, List.set_cons_succ]
          refine wpAnyH_take (i := 3) (v := (.pointer (some ⟨m, 0, none⟩))) rfl (by kernel_rfl) (by kernel_rfl) (by kernel_rfl) (fun _ _ _ h => h) (Or.inl ⟨by rfl, fun w hSw => by (try dsimp only at hSw); go_simp <;> first | rfl | assumption | (simp; omega) | omega⟩) (by assumption) ?_
          try simp only [List.getElem_toArray, List.getElem_cons_zero, List.getElem_cons_succ, Act.put, List.setIfInBounds_toArray, List.set_cons_zero, List.set_cons_succ]
          refine wpAnyH_take (i := 4) (v := (.slice (some ⟨g, 0, none⟩) n c)) rfl (by kernel_rfl) (by kernel_rfl) (by kernel_rfl) (fun _ _ _ h => h) (Or.inl ⟨by rfl, fun w hSw => by (try dsimp only at hSw); go_simp <;> first | rfl | assumption | (simp; omega) | omega⟩) (by assumption) ?_
          try simp only [List.getElem_toArray, List.getElem_cons_zero, List.getElem_cons_succ, Act.put, List.setIfInBounds_toArray, List.set_cons_zero, List.set_cons_succ]
          refine wpAnyH_take (i := 5) (v := (.int .i64 (n : Int))) rfl (by kernel_rfl) (by kernel_rfl) (by kernel_rfl) (fun _ _ _ h => h) (Or.inl ⟨by rfl, fun w hSw => by (try dsimp only at hSw); go_simp <;> first | rfl | assumption | (simp; omega) | omega⟩) (by assumption) ?_
          try simp only [List.getElem_toArray, List.getElem_cons_zero, List.getElem_cons_succ, Act.put, List.setIfInBounds_toArray, List.set_cons_zero, List.set_cons_succ]
          refine wpAnyH_take (i := 6) (v := (.bool true)) rfl (by kernel_rfl) (by kernel_rfl) (by kernel_rfl) (fun _ _ _ h => h) (Or.inl ⟨by rfl, fun w hSw => by (try dsimp only at hSw); go_simp <;> first | rfl | assumption | (simp; omega) | omega⟩) (by assumption) ?_
          try simp only [List.getElem_toArray, List.getElem_cons_zero, List.getElem_cons_succ, Act.put, List.setIfInBounds_toArray, List.set_cons_zero, List.set_cons_succ]
          refine wpAnyH_take (i := 7) (v := (.bool true)) rfl (by kernel_rfl) (by kernel_rfl) (by kernel_rfl) (fun _ _ _ h => h) (Or.inl ⟨by rfl, fun w hSw => by (try dsimp only at hSw); go_simp <;> first | rfl | assumption | (simp; omega) | omega⟩) (by assumption) ?_
          try simp only [List.getElem_toArray, List.getElem_cons_zero, List.getElem_cons_succ, Act.put, List.setIfInBounds_toArray, List.set_cons_zero, List.set_cons_succ]
          refine wpAnyH_take (i := 8) (v := (.pointer (some ⟨m, 0, none⟩))) rfl (by kernel_rfl) (by kernel_rfl) (by kernel_rfl) (fun _ _ _ h => h) (Or.inl ⟨by rfl, fun w hSw => by (try dsimp only at hSw); go_simp <;> first | rfl | assumption | (simp; omega) | omega⟩) (by assumption) ?_
          try simp only [List.getElem_toArray, List.getElem_cons_zero, List.getElem_cons_succ, Act.put, List.setIfInBounds_toArray, List.set_cons_zero, List.set_cons_succ]
          refine wpAnyH_take (i := 9) (v := (.pointer (some ⟨m, 0, none⟩))) rfl (by kernel_rfl) (by kernel_rfl) (by kernel_rfl) (fun _ _ _ h => h) (Or.inl ⟨by rfl, fun w hSw => by (try dsimp only at hSw); go_simp <;> first | rfl | assumption | (simp; omega) | omega⟩) (by assumption) ?_
          try simp only [List.getElem_toArray, List.getElem_cons_zero, List.getElem_cons_succ, Act.put, List.setIfInBounds_toArray, List.set_cons_zero, List.set_cons_succ]
          refine wpAnyH_take (i := 10) (v := (.pointer (some ⟨m, 0, none⟩))) rfl (by kernel_rfl) (by kernel_rfl) (by kernel_rfl) (fun _ _ _ h => h) (Or.inl ⟨by rfl, fun w hSw => by (try dsimp only at hSw); go_simp <;> first | rfl | assumption | (simp; omega) | omega⟩) (by assumption) ?_
          try simp only [List.getElem_toArray, List.getElem_cons_zero, List.getElem_cons_succ, Act.put, List.setIfInBounds_toArray, List.set_cons_zero, List.set_cons_succ]
          refine wpAnyH_take (i := 11) (v := (.slice (some ⟨g, 0, none⟩) n c)) rfl (by kernel_rfl) (by kernel_rfl) (by kernel_rfl) (fun _ _ _ h => h) (Or.inl ⟨by rfl, fun w hSw => by (try dsimp only at hSw); go_simp <;> first | rfl | assumption | (simp; omega) | omega⟩) (by assumption) ?_
          try simp only [List.getElem_toArray, List.getElem_cons_zero, List.getElem_cons_succ, Act.put, List.setIfInBounds_toArray, List.set_cons_zero, List.set_cons_succ]
          refine wpAnyH_take (i := 12) (v := (.int .i64 k)) rfl (by kernel_rfl) (by kernel_rfl) (by kernel_rfl) (fun _ _ _ h => h) (Or.inl ⟨by rfl, fun w hSw => by (try dsimp only at hSw); go_simp <;> first | rfl | assumption | (simp; omega) | omega⟩) (by assumption) ?_
          try simp only [List.getElem_toArray, List.getElem_cons_zero, List.getElem_cons_succ, Act.put, List.setIfInBounds_toArray, List.set_cons_zero, List.set_cons_succ]
          refine wpAnyH_take (i := 13) (v := (.pointer (some ⟨g, k * 5, none⟩))) rfl (by kernel_rfl) (by kernel_rfl) (by kernel_rfl) (fun _ _ _ h => h) (Or.inl ⟨by rfl, fun w hSw => by (try dsimp only at hSw); go_simp <;> first | rfl | assumption | (simp; omega) | omega⟩) (by assumption) ?_
          try simp only [List.getElem_toArray, List.getElem_cons_zero, List.getElem_cons_succ, Act.put, List.setIfInBounds_toArray, List.set_cons_zero, List.set_cons_succ]
          refine wpAnyH_take (i := 14) (v := (.pointer (some ⟨g, k * 5, none⟩))) rfl (by kernel_rfl) (by kernel_rfl) (by kernel_rfl) (fun _ _ _ h => h) (Or.inl ⟨by rfl, fun w hSw => by (try dsimp only at hSw); go_simp <;> first | rfl | assumption | (simp; omega) | omega⟩) (by assumption) ?_
          try simp only [List.getElem_toArray, List.getElem_cons_zero, List.getElem_cons_succ, Act.put, List.setIfInBounds_toArray, List.set_cons_zero, List.set_cons_succ]
          refine wpAnyH_take (i := 15) (v := (.int .i64 J)) rfl (by kernel_rfl) (by kernel_rfl) (by kernel_rfl) (fun _ _ _ h => h) (Or.inl ⟨by rfl, fun w hSw => by (try dsimp only at hSw); go_simp <;> first | rfl | assumption | (simp; omega) | omega⟩) (by assumption) ?_
          try simp only [List.getElem_toArray, List.getElem_cons_zero, List.getElem_cons_succ, Act.put, List.setIfInBounds_toArray, List.set_cons_zero, List.set_cons_succ]
          refine wpAnyH_take (i := 16) (v := (.pointer (some ⟨I, 0, none⟩))) rfl (by kernel_rfl) (by kernel_rfl) (by kernel_rfl) (fun _ _ _ h => h) (Or.inl ⟨by rfl, fun w hSw => by (try dsimp only at hSw); go_simp <;> first | rfl | assumption | (simp; omega) | omega⟩) (by assumption) ?_
          try simp only [List.getElem_toArray, List.getElem_cons_zero, List.getElem_cons_succ, Act.put, List.setIfInBounds_toArray, List.set_cons_zero, List.set_cons_succ]
          refine wpAnyH_take (i := 17) (v := (.int .i64 I0)) rfl (by kernel_rfl) (by kernel_rfl) (by kernel_rfl) (fun _ _ _ h => h) (Or.inl ⟨by rfl, fun w hSw => by (try dsimp only at hSw); go_simp <;> first | rfl | assumption | (simp; omega) | omega⟩) (by assumption) ?_
          try simp only [List.getElem_toArray, List.getElem_cons_zero, List.getElem_cons_succ, Act.put, List.setIfInBounds_toArray, List.set_cons_zero, List.set_cons_succ]
          refine wpAnyH_take (i := 18) (v := (.bool false)) rfl (by kernel_rfl) (by kernel_rfl) (by kernel_rfl) (fun _ _ _ h => h) (Or.inl ⟨by rfl, fun w hSw => by (try dsimp only at hSw); go_simp <;> first | rfl | assumption | (simp; omega) | omega⟩) (by assumption) ?_
          try simp only [List.getElem_toArray, List.getElem_cons_zero, List.getElem_cons_succ, Act.put, List.setIfInBounds_toArray, List.set_cons_zero, List.set_cons_succ]
          refine wpAnyH_take (i := 19) (v := (.bool false)) rfl (by kernel_rfl) (by kernel_rfl) (by kernel_rfl) (fun _ _ _ h => h) (Or.inl ⟨by rfl, fun w hSw => by (try dsimp only at hSw); go_simp <;> first | rfl | assumption | (simp; omega) | omega⟩) (by assumption) ?_
          try simp only [List.getElem_toArray, List.getElem_cons_zero, List.getElem_cons_succ, Act.put, List.setIfInBounds_toArray, List.set_cons_zero, List.set_cons_succ]
          refine wpAnyH_done (by kernel_rfl) ?_ _
          go_wp2_with fail
          go_meet
          exact ⟨rfl, rfl⟩
      case rest =>
      obtain ⟨rfl, rfl⟩ := hcut
      have h5 := h4.keep (Bd B0)
      have b5 := Blk.drew b4
      have B5 := Bd B4
      clear a0 d0 h4 b4
      generalize w4.drew = w5 at *
      cases zz
      case true =>
        have hh := HZ.out.1 rfl
        have hkn : k < n := by have := hh.1; rw [HP.out, HN.out] at this; exact this
        obtain ⟨g, c0, e, cur⟩ : ∃ g c0, Value.slice A n c = .slice (some ⟨g, 0, none⟩) n c0 ∧ True := by
          rcases h5.2.2 with ⟨-, e0⟩ | ⟨g, cap, cur, e0, -, hg, -⟩
          · have := HN.out; omega
          · exact ⟨g, cap, by rw [e0, HN.out], trivial⟩
        injection e with e1 _ e3
        subst e1 e3
        have hrow := h5.2
        rw [HN.out] at hrow
        have a0 := h5.1.cell 0
        simp at a0
        have d0 := b5.cell 0
        have d1 := b5.cell 1
        have d2 := b5.cell 2
        have d3 := b5.cell 3
        have d4 := b5.cell 4
        simp at d0 d1 d2 d3 d4
        have hFr := fun j => World.ownsRow.frozenAt hrow j
        have f0 := hFr (k * 5)
        have f1 := hFr (k * 5 + 1)
        have f2 := hFr (k * 5 + 2)
        have f3 := hFr (k * 5 + 3)
        have f4 := hFr (k * 5 + 4)
        have y0 := World.ownsRow.cellAt hrow (k * 5) (by omega)
        have y1 := World.ownsRow.cellAt hrow (k * 5 + 1) (by omega)
        have y2 := World.ownsRow.cellAt hrow (k * 5 + 2) (by omega)
        have y3 := World.ownsRow.cellAt hrow (k * 5 + 3) (by omega)
        have y4 := World.ownsRow.cellAt hrow (k * 5 + 4) (by omega)
        obtain ⟨i0, i1, i2, i3, i4⟩ := itc_at l k (by have := HN.out; omega)
        rw [i0] at y0
        rw [i1] at y1
        rw [i2] at y2
        rw [i3] at y3
        rw [i4] at y4
        have H5 := Lib.hid h5
        have HR := Lib.hid hrow
        have hgm : g ≠ m := HNE.out g rfl
        clear h5 hrow hFr i0 i1 i2 i3 i4 hh b5
        go_upto_region 7 with fail
        refine HeldY.wp_region_X (S := (fun w' => w'.cell? ⟨m, 0, none⟩ = some (.slice (some ⟨g, 0, none⟩) n c) ∧ w'.cell? ⟨I, 0, none⟩ = some (.int .i64 I0) ∧ w'.cell? ⟨I, 1, none⟩ = some (.int .i64 x.a) ∧ w'.cell? ⟨I, 2, none⟩ = some (.int .i64 x.b) ∧ w'.cell? ⟨I, 3, none⟩ = some (.int .i64 x.c) ∧ w'.cell? ⟨I, 4, none⟩ = some (.int .i64 x.d))) (by kernel_rfl) ⟨a0, d0, d1, d2, d3, d4⟩ (fun hHeld => ?_)
        refine HeldY.wpAnyX_take (i := 0) (v := (.pointer (some ⟨m, 0, none⟩))) rfl (by kernel_rfl) (by kernel_rfl) (by kernel_rfl) (by kernel_rfl) (fun _ _ _ h => h) (Or.inl ⟨by rfl, fun w hSw => by (try dsimp only at hSw); go_simp <;> first | rfl | assumption | (simp; omega) | omega⟩) (by assumption) ?_
        try simp only [List.getElem_toArray, List.getElem_cons_zero, List.getElem_cons_succ, Act.put, List.setIfInBounds_toArray, List.set_cons_zero, List.set_cons_succ]
        refine HeldY.wpAnyX_take (i := 1) (v := (.pointer (some ⟨m, 0, none⟩))) rfl (by kernel_rfl) (by kernel_rfl) (by kernel_rfl) (by kernel_rfl) (fun _ _ _ h => h) (Or.inl ⟨by rfl, fun w hSw => by (try dsimp only at hSw); go_simp <;> first | rfl | assumption | (simp; omega) | omega⟩) (by assumption) ?_
        try simp only [List.getElem_toArray, List.getElem_cons_zero, List.getElem_cons_succ, Act.put, List.setIfInBounds_toArray, List.set_cons_zero, List.set_cons_succ]
        refine HeldY.wpAnyX_take (i := 2) (v := (.pointer (some ⟨m, 0, none⟩))) rfl (by kernel_rfl) (by kernel_rfl) (by kernel_rfl) (by kernel_rfl) (fun _ _ _ h => h) (Or.inl ⟨by rfl, fun w hSw => by (try dsimp only at hSw); go_simp <;> first | rfl | assumption | (simp; omega) | omega⟩) (by assumption) ?_
        try simp only [List.getElem_toArray, List.getElem_cons_zero, List.getElem_cons_succ, Act.put, List.setIfInBounds_toArray, List.set_cons_zero, List.set_cons_succ]
        refine HeldY.wpAnyX_take (i := 3) (v := (.slice (some ⟨g, 0, none⟩) n c)) rfl (by kernel_rfl) (by kernel_rfl) (by kernel_rfl) (by kernel_rfl) (fun _ _ _ h => h) (Or.inl ⟨by rfl, fun w hSw => by (try dsimp only at hSw); go_simp <;> first | rfl | assumption | (simp; omega) | omega⟩) (by assumption) ?_
        try simp only [List.getElem_toArray, List.getElem_cons_zero, List.getElem_cons_succ, Act.put, List.setIfInBounds_toArray, List.set_cons_zero, List.set_cons_succ]
        refine HeldY.wpAnyX_take (i := 4) (v := (.int .i64 k)) rfl (by kernel_rfl) (by kernel_rfl) (by kernel_rfl) (by kernel_rfl) (fun _ _ _ h => h) (Or.inl ⟨by rfl, fun w hSw => by (try dsimp only at hSw); go_simp <;> first | rfl | assumption | (simp; omega) | omega⟩) (by assumption) ?_
        try simp only [List.getElem_toArray, List.getElem_cons_zero, List.getElem_cons_succ, Act.put, List.setIfInBounds_toArray, List.set_cons_zero, List.set_cons_succ]
        refine HeldY.wpAnyX_take (i := 5) (v := (.agg #[(.int .i64 I0), (.int .i64 x.a), (.int .i64 x.b), (.int .i64 x.c), (.int .i64 x.d)])) rfl (by kernel_rfl) (by kernel_rfl) (by kernel_rfl) (by kernel_rfl) (fun _ _ _ h => h) (Or.inl ⟨by rfl, fun w hSw => by (try dsimp only at hSw); go_simp <;> first | rfl | assumption | (simp; omega) | omega⟩) (by assumption) ?_
        try simp only [List.getElem_toArray, List.getElem_cons_zero, List.getElem_cons_succ, Act.put, List.setIfInBounds_toArray, List.set_cons_zero, List.set_cons_succ]
        refine HeldY.wpAnyX_take (i := 6) (v := (.pointer (some ⟨g, k * 5, none⟩))) rfl (by kernel_rfl) (by kernel_rfl) (by kernel_rfl) (by kernel_rfl) (fun _ _ _ h => h) (Or.inl ⟨by rfl, fun w hSw => by (try dsimp only at hSw); go_simp <;> first | rfl | assumption | (simp; omega) | omega⟩) (by assumption) ?_
        try simp only [List.getElem_toArray, List.getElem_cons_zero, List.getElem_cons_succ, Act.put, List.setIfInBounds_toArray, List.set_cons_zero, List.set_cons_succ]
        refine HeldY.wpAnyX_last (i := 7) (by kernel_rfl) (by kernel_rfl) rfl (fun K hK => ?_)
        go_simp
        refine hK.out _ _ ?_
        clear hK K
        go_wp2_with fail
        have HRd : w5.drew.ownsRow 0 32 5 (.slice (some ⟨g, 0, none⟩) n c) n (itc l) := HR.out
        have HXd : Ix w5.drew m (.slice (some ⟨g, 0, none⟩) n c) l := H5.out
        have r1 := World.ownsRow.stored HRd (k * 5) (.int .i64 I0)
        have r2 := World.ownsRow.stored r1.1 (k * 5 + 1) (.int .i64 x.a)
        have r3 := World.ownsRow.stored r2.1 (k * 5 + 2) (.int .i64 x.b)
        have r4 := World.ownsRow.stored r3.1 (k * 5 + 3) (.int .i64 x.c)
        have r5 := World.ownsRow.stored r4.1 (k * 5 + 4) (.int .i64 x.d)
        have hw := ((((r1.2.trans r2.2).trans r3.2).trans r4.2).trans r5.2)
        have hFt : Ft (IxS m (.slice (some ⟨g, 0, none⟩) n c)) w _ := (Ft.of_below (Bd B5)).grown hw (fun q hq => .inl (.inr hq))
        refine bodyPost_ret (v := .int .i64 0) (by simp [results, Tryz.results7, go_sem]) rfl ⟨_, putIt l x, 0, rfl, .inl ⟨HM.out, rfl, rfl⟩, ⟨?_, ?_⟩, hFt, fun q hq => .inl hq⟩
        · exact Blk.far (Blk.far (Blk.far (Blk.far (Blk.far HXd.1 (by show m ≠ g; omega) _) (by show m ≠ g; omega) _) (by show m ≠ g; omega) _) (by show m ≠ g; omega) _) (by show m ≠ g; omega) _
        · unfold putIt
          rw [if_pos (HZ.out.1 (by simp)), List.length_set, HN.out, itc_set, HP.out, HI0.out]
          exact r5.1
      case false =>
        have hrow := h5.2
        rw [HN.out] at hrow
        obtain ⟨uh, SLH, hu1, hu2⟩ := own_hi items_elem items_size hrow hPn
        obtain ⟨ul, SLL, hu3, hu4⟩ := own_lo items_elem items_size hrow hPn
        rw [itc_take] at hu1
        rw [itc_drop] at hu3
        have a0 := h5.1.cell 0
        simp at a0
        obtain ⟨E, hE⟩ : ∃ E, w5.heap.size = E := ⟨_, rfl⟩
        have R0 := own_empty w5 (I + 1) (by have := b5.lt; omega) 32 5
        have B6 : Below w5.heap.size w5 (w5.alloc (.cells #[] 32)) := Ba B0
        have H6 := Lib.hid (h5.keep B6)
        have b6 := b5.keep B6
        have HU1 := Lib.hid (SlRd.below hu1 B6)
        have HU3 := Lib.hid (SlRd.below hu3 B6)
        have HU24 := Lib.hid (And.intro hu2 hu4)
        rw [hE] at R0
        have HR0 := Lib.hid R0
        have HB6 := Lib.hid (Bt B5 B6)
        have a6 := H6.out.1.cell 0
        simp at a6
        have hs6 : (w5.alloc (.cells #[] 32)).heap.size = E + 1 := by rw [alloc_size, hE]
        have HEI : Hid (I < E) := Lib.hid (by have := b5.lt; omega)
        clear h5 hrow hu1 hu2 hu3 hu4 b5 B6 R0 B5
        have HW1 := Lib.hid (itc_len (l.take k))
        have HLK : Hid ((l.take k).length = k) := Lib.hid (by rw [List.length_take, HN.out]; omega)
        have HBZ : Hid (I + 1 ≤ (w5.alloc (.cells #[] 32)).heap.size) := Lib.hid (by have := HEI.out; omega)
        have HMX : Hid (k ≤ 1000) := Lib.hid (by omega)
        go_upto_region 10 with (at_builtin; refine appx_list (base := I + 1) (bytes := 40) Tryz.underlying26 item_info rfl (by decide) rfl (.tmp 70) (.tmp 76) rfl (by rfl) (by rfl) HR0.out HU1.out (fun u hu => itc_one hu) (by have := HMX.out; unfold maxLen; omega) (by have := HMX.out; omega) HBZ.out ?_; intro v1 x1 R1 F1; rw [Nat.zero_add, List.nil_append] at R1; have HR1 := Lib.hid R1; have HF1 := Lib.hid F1; obtain ⟨A1, c1, rfl⟩ := sl_form R1; clear R1 F1)
        have F1 := HF1.out.1
        have hE1 : ∀ q, (Value.slice (some ⟨E, 0, none⟩) 0 0).ownBlock = some q → q = E := fun q hq => by simpa [Value.ownBlock] using hq.symm
        have hmE : m < E := by have := HLT.out.1; have := HEI.out; have := HI.out; omega
        have hvE : ∀ q, (Value.slice A n c).ownBlock = some q → q < E := fun q hq => by have := HLT.out.2 q hq; have := HEI.out; have := HI.out; omega
        have b7 := b6.grown F1 (fun e => by have := hE1 I e.symm; have := HEI.out; omega)
        have hx7 : Ix x1 m (.slice A n c) l := ⟨H6.out.1.grown F1 (fun e => by have := hE1 m e.symm; omega), World.ownsRow.kept H6.out.2 F1 (by
          cases hq : (Value.slice A n c).ownBlock with
          | none => exact .inl rfl
          | some q => exact .inr (fun e => by have := hvE q hq; have := hE1 q e.symm; omega))⟩
        have HX7 := Lib.hid hx7
        have hFt1 : Ft (fun _ => False) w x1 := (Ft.of_below (S := fun _ => False) HB6.out).grown F1 (fun q hq => .inr (by have := hE1 q hq; have := HEI.out; have := HI.out; omega))
        have HFT1 := Lib.hid hFt1
        have hU3 : SlRd x1 5 (n - k) ul (itc (l.drop k)) := SlRd.grown HU3.out F1 (by
          cases hq : ul.ownBlock with
          | none => exact .inl rfl
          | some q => exact .inr (fun e => by have := hvE q (HU24.out.2 q hq); have := hE1 q e.symm; omega))
        have HU7 := Lib.hid hU3
        have hs7 := F1.size
        have hN1 : ∀ q, (Value.slice A1 k c1).ownBlock = some q → I + 1 ≤ q ∧ E ≤ q ∧ q < x1.heap.size := fun q hq => by
          refine ⟨(World.ownsRow.lt HR1.out q hq).1, ?_, (World.ownsRow.lt HR1.out q hq).2⟩
          rcases HF1.out.2 q hq with e | e
          · have := hE1 q e; omega
          · omega
        have HN1 := Lib.hid hN1
        have d0 := b7.cell 0
        have d1 := b7.cell 1
        have d2 := b7.cell 2
        have d3 := b7.cell 3
        have d4 := b7.cell 4
        simp at d0 d1 d2 d3 d4
        have BL := Lib.hid (Blk.new x1 32 #[.int .i64 I0, .int .i64 x.a, .int .i64 x.b, .int .i64 x.c, .int .i64 x.d])
        have B8 : Below x1.heap.size x1 (x1.alloc (.cells #[.int .i64 I0, .int .i64 x.a, .int .i64 x.b, .int .i64 x.c, .int .i64 x.d] 32)) := Ba B0
        have HR8 := Lib.hid (World.ownsRow.kept HR1.out (CovW.grown_below B8 none) (by cases (Value.slice A1 k c1).ownBlock <;> simp))
        have HX8 := Lib.hid (hx7.keep B8)
        have HU8 := Lib.hid (SlRd.below hU3 B8)
        have HFT8 := Lib.hid (hFt1.below B8)
        have hs8 := B8.size
        have HBZ8 : Hid (I + 1 ≤ (x1.alloc (.cells #[.int .i64 I0, .int .i64 x.a, .int .i64 x.b, .int .i64 x.c, .int .i64 x.d] 32)).heap.size) := Lib.hid (by have := HEI.out; omega)
        clear a6 a0 hx7 hFt1 hU3 hN1 b7 F1 b6 B8
        go_upto_region 11 with (at_builtin; refine appx_list (base := I + 1) (bytes := 40) Tryz.underlying26 item_info rfl (by decide) rfl (.tmp 78) (.tmp 80) rfl (by rfl) (by rfl) HR8.out (lit_rd BL.out rfl) (fun u hu => by simp at hu; rcases hu with h | h | h | h | h <;> rw [h] <;> rfl) (by have := HMX.out; unfold maxLen; omega) (by have := HMX.out; omega) HBZ8.out ?_; intro v2 x2 R2 F2; have HR2 := Lib.hid R2; have HF2 := Lib.hid F2; obtain ⟨A2, c2, rfl⟩ := sl_form R2; clear R2 F2)
        have F2 := HF2.out.1
        have hN2 : ∀ q, (Value.slice A2 (k + 1) c2).ownBlock = some q → I + 1 ≤ q ∧ E ≤ q ∧ q < x2.heap.size := fun q hq => by
          refine ⟨(World.ownsRow.lt HR2.out q hq).1, ?_, (World.ownsRow.lt HR2.out q hq).2⟩
          rcases HF2.out.2 q hq with e | e
          · exact (HN1.out q e).2.1
          · omega
        have hx9 : Ix x2 m (.slice A n c) l := ⟨HX8.out.1.grown F2 (fun e => by have := (HN1.out m e.symm).2.1; omega), World.ownsRow.kept HX8.out.2 F2 (by
          cases hq : (Value.slice A n c).ownBlock with
          | none => exact .inl rfl
          | some q => exact .inr (fun e => by have := hvE q hq; have := (HN1.out q e.symm).2.1; omega))⟩
        have HX9 := Lib.hid hx9
        have a9 := hx9.1.cell 0
        simp at a9
        have HFT9 := Lib.hid (HFT8.out.grown F2 (fun q hq => .inr (by have := (HN1.out q hq).2.1; have := HEI.out; have := HI.out; omega)))
        have hU9 : SlRd x2 5 (n - k) ul (itc (l.drop k)) := SlRd.grown HU8.out F2 (by
          cases hq : ul.ownBlock with
          | none => exact .inl rfl
          | some q => exact .inr (fun e => by have := hvE q (HU24.out.2 q hq); have := (HN1.out q e.symm).2.1; omega))
        have HU9 := Lib.hid hU9
        have HN2 := Lib.hid hN2
        have hs9 := F2.size
        obtain ⟨N, hNN⟩ : ∃ N, k + 1 + (n - k) = N := ⟨_, rfl⟩
        have HNN := Lib.hid hNN
        clear hNN
        have HBZ9 : Hid (I + 1 ≤ x2.heap.size) := Lib.hid (by have := HBZ8.out; omega)
        clear d0 d1 d2 d3 d4 hx9 hU9 hN2 F2
        go_upto_region 12 with (at_builtin; refine appx_list (base := I + 1) (bytes := 40) Tryz.underlying26 item_info rfl (by decide) rfl (.tmp 82) (.tmp 88) rfl (by rfl) (by rfl) HR2.out HU9.out (fun u hu => itc_one hu) (by have := HMX.out; unfold maxLen; omega) (by have := HMX.out; omega) HBZ9.out ?_; intro v3 x3 R3 F3; rw [HNN.out] at R3; have HR3 := Lib.hid R3; have HF3 := Lib.hid F3; obtain ⟨A4, c4, rfl⟩ := sl_form R3; clear R3 F3)
        have F3 := HF3.out.1
        have bm := HX9.out.1.grown F3 (fun e => by have := (HN2.out m e.symm).2.1; omega)
        have am := bm.cell 0
        have fm := bm.frozen 0
        simp at am
        have bm2 := bm.set_ 0 (.slice A4 N c4)
        have hFt3 : Ft (IxS m (.slice A n c)) w x3 := (HFT9.out.grown F3 (fun q hq => .inr (by have := (HN2.out q hq).2.1; have := HEI.out; have := HI.out; omega))).imp (fun _ _ h => h.elim)
        have HFT := Lib.hid (hFt3.set (p := ⟨m, 0, none⟩) (.inl (.inl rfl)) (.slice A4 N c4))
        have hN3 : ∀ q, (Value.slice A4 N c4).ownBlock = some q → E ≤ q := fun q hq => by
          rcases HF3.out.2 q hq with e | e
          · exact (HN2.out q e).2.1
          · omega
        have HN3 := Lib.hid hN3
        clear a9 hFt3 hN3 F3
        go_wp2_with fail
        have hlen : (putIt l x).length = N := by
          unfold putIt
          rw [if_neg (fun e => absurd (HZ.out.2 e) (by decide))]
          simp only [List.length_append, List.length_cons, List.length_take, List.length_drop, HP.out, HN.out]
          have := HNN.out
          omega
        refine bodyPost_ret (v := .int .i64 0) (by simp [results, Tryz.results7, go_sem]) rfl ⟨_, putIt l x, 0, rfl, .inl ⟨HM.out, rfl, rfl⟩, ⟨bm2, ?_⟩, HFT.out, fun q hq => .inr (by have := HN3.out q hq; have := HEI.out; have := HI.out; omega)⟩
        rw [hlen]
        have hcells : itc (putIt l x) = itc (l.take k) ++ [.int .i64 I0, .int .i64 x.a, .int .i64 x.b, .int .i64 x.c, .int .i64 x.d] ++ itc (l.drop k) := by
          unfold putIt
          rw [if_neg (fun e => absurd (HZ.out.2 e) (by decide)), HP.out, itc_app, List.append_assoc, ← HI0.out]
          rfl
        rw [hcells]
        refine ownsRow_far (sl_less (HR3.out) (Nat.zero_le _)) (fun q hq => ?_) _
        have := HN3.out q hq
        show q ≠ m
        omega
end Go.Proofs.YtiboonkegjahaaaGreat.IdxW

/-
  The walks of the document's own index: Remove, Search (written by tools/gen/refidxb.py).
-/
namespace Go.Proofs.YtiboonkegjahaaaGreat.IdxW
open Go.RowKit WideW CovW SlW IntW
set_option linter.all false

def remIt (l : List ItV) (i : Int) : List ItV := l.filter (fun y => decide (y.id ≠ i))
theorem take_it {l : List ItV} {k : Nat} (h : k < l.length) : l.take (k + 1) = l.take k ++ [itAt l k] := by
  rw [List.take_add_one, List.getElem?_eq_getElem h, itAt_eq h]; rfl
theorem rem_yes (l : List ItV) (y : ItV) (i : Int) (h : y.id ≠ i) : remIt (l ++ [y]) i = remIt l i ++ [y] := by simp [remIt, h]
theorem rem_no (l : List ItV) (y : ItV) (i : Int) (h : y.id = i) : remIt (l ++ [y]) i = remIt l i := by simp [remIt, h]
theorem rem_len (l : List ItV) (i : Int) : (remIt l i).length ≤ l.length := List.length_filter_le _ _
def RemOut (l : List ItV) (i : Int) (l' : List ItV) (k : Int) : Prop := ((remIt l i).length = l.length ∧ l' = l ∧ k = 1201) ∨ ((remIt l i).length ≠ l.length ∧ l' = remIt l i ∧ k = 0)
open Classical in
noncomputable def seaIt (l : List ItV) (a b c d : Int) : List Int := (l.filter (fun y => decide (Geom.Mt y.a y.b y.c y.d a b c d))).map (·.id)
theorem sea_yes (l : List ItV) (y : ItV) (a b c d : Int) (h : Geom.Mt y.a y.b y.c y.d a b c d) : seaIt (l ++ [y]) a b c d = seaIt l a b c d ++ [y.id] := by simp [seaIt, h]
theorem sea_no (l : List ItV) (y : ItV) (a b c d : Int) (h : ¬ Geom.Mt y.a y.b y.c y.d a b c d) : seaIt (l ++ [y]) a b c d = seaIt l a b c d := by simp [seaIt, h]
theorem sea_len (l : List ItV) (a b c d : Int) : (seaIt l a b c d).length ≤ l.length := by
  unfold seaIt; rw [List.length_map]; exact List.length_filter_le _ _
def SeaOut (l : List ItV) (a b c d : Int) (out : List Int) (k : Int) : Prop := (Geom.Bx a b c d ∧ out = seaIt l a b c d ∧ k = 0) ∨ (¬ Geom.Bx a b c d ∧ out = [] ∧ k = 1200)
theorem kd9 {W w' : World} {a0 a1 a2 a3 a4 a5 a6 a7 a8 : Addr} {v0 v1 v2 v3 v4 v5 v6 v7 v8 : Value} (hb : Below W.heap.size W w') (h : W.cell? a0 = some v0 ∧ W.cell? a1 = some v1 ∧ W.cell? a2 = some v2 ∧ W.cell? a3 = some v3 ∧ W.cell? a4 = some v4 ∧ W.cell? a5 = some v5 ∧ W.cell? a6 = some v6 ∧ W.cell? a7 = some v7 ∧ W.cell? a8 = some v8) : w'.cell? a0 = some v0 ∧ w'.cell? a1 = some v1 ∧ w'.cell? a2 = some v2 ∧ w'.cell? a3 = some v3 ∧ w'.cell? a4 = some v4 ∧ w'.cell? a5 = some v5 ∧ w'.cell? a6 = some v6 ∧ w'.cell? a7 = some v7 ∧ w'.cell? a8 = some v8 :=
  ⟨cell_keep hb h.1, cell_keep hb h.2.1, cell_keep hb h.2.2.1, cell_keep hb h.2.2.2.1, cell_keep hb h.2.2.2.2.1, cell_keep hb h.2.2.2.2.2.1, cell_keep hb h.2.2.2.2.2.2.1, cell_keep hb h.2.2.2.2.2.2.2.1, cell_keep hb h.2.2.2.2.2.2.2.2⟩
/-- The k-th item's cells. -/
theorem Ix.item {w : World} {m n : Nat} {A : Option Addr} {c : Nat} {l : List ItV} (h : Ix w m (.slice A n c) l) (hn : l.length = n) {k : Nat} (hk : k < n) :
    ∃ g, A = some ⟨g, 0, none⟩ ∧ w.cell? ⟨g, k * 5, none⟩ = some (.int .i64 (itAt l k).id) ∧ w.cell? ⟨g, k * 5 + 1, none⟩ = some (.int .i64 (itAt l k).a) ∧ w.cell? ⟨g, k * 5 + 2, none⟩ = some (.int .i64 (itAt l k).b) ∧ w.cell? ⟨g, k * 5 + 3, none⟩ = some (.int .i64 (itAt l k).c) ∧ w.cell? ⟨g, k * 5 + 4, none⟩ = some (.int .i64 (itAt l k).d) := by
  have h2 := h.2
  rw [hn] at h2
  rcases h2.2 with ⟨-, e0⟩ | ⟨g, cap, cur, e0, -, hg, -⟩
  · omega
  · injection e0 with e1 _ e3
    subst e1 e3
    obtain ⟨i0, i1, i2, i3, i4⟩ := itc_at l k (by omega)
    refine ⟨g, rfl, ?_, ?_, ?_, ?_, ?_⟩
    all_goals rw [World.ownsRow.cellAt h2 _ (by omega)]
    all_goals assumption

set_option maxRecDepth 100000 in
set_option maxHeartbeats 4000000 in
theorem ixRemove_any (m : Nat) (v : Value) (l : List ItV) (i : Int) (w : World) (h : Ix w m v l) (hl : l.length ≤ 1000) :
    Calls Tryz.prog 9 #[.pointer (some ⟨m, 0, none⟩), .int .i64 i] w fun e w' => ∃ v' l' k, e = .returned (.int .i64 k) ∧ RemOut l i l' k ∧ Ix w' m v' l' ∧ Ft (IxS m v) w w' ∧ ∀ q, v'.ownBlock = some q → v.ownBlock = some q ∨ w.heap.size ≤ q := by
  obtain ⟨A, c, rfl⟩ := sl_form h.2
  obtain ⟨n, hn⟩ : ∃ n, l.length = n := ⟨_, rfl⟩
  have hlt := h.lt
  rw [hn] at hlt hl h ⊢
  have HN := Lib.hid hn
  have HLT := Lib.hid hlt
  clear hn hlt
  go_enter Tryz.func9, Tryz.ntmps9
  go_wp2_with fail
  go_loopw [5, 6] (fun o j W => ∃ (k q : Nat), k ≤ n ∧ j = .int .i64 k ∧ q ≤ k ∧ Hid ((remIt (l.take k) i).length = q) ∧ W.ownsRow w.heap.size 32 5 o q (itc (remIt (l.take k) i)) ∧ Below w.heap.size w W) (fun _ j _ => n - (intOf j).toNat)
  case atStart => exact ⟨0, 0, Nat.zero_le _, rfl, Nat.le_refl _, Lib.hid (by simp [remIt]), by simpa [remIt, itc] using World.ownsRow_nil w w.heap.size _ _, B0⟩
  case round =>
    obtain ⟨k, q, hk, rfl, hq, HQ, hR, hF⟩ := hrel
    have h3 := h.keep hF
    have a0 := h3.1.cell 0
    simp at a0
    obtain ⟨A3, c3, rfl⟩ := sl_form hR
    by_cases hkn : k < n
    case neg =>
      obtain rfl : k = n := by omega
      have hall : l.take k = l := List.take_of_length_le (by rw [HN.out]; exact Nat.le_refl _)
      rw [hall] at HQ hR
      have HR := Lib.hid hR
      have H3 := Lib.hid h3
      clear hR h3 hall
      by_cases he : q = k
      · subst he
        have he2 : ((q : Int) == (q : Int)) = true := by simp
        go_wp2_with fail
        refine bodyPost_ret (v := .int .i64 1201) (by simp [results, Tryz.results9, go_sem]) rfl ⟨_, l, 1201, rfl, .inl ⟨by rw [HQ.out, HN.out], rfl, rfl⟩, H3.out, Ft.of_below hF, fun q hq => .inl hq⟩
      · have he2 : ((q : Int) == (k : Int)) = false := by simp; omega
        have hb := H3.out.1
        have fm := hb.frozen 0
        have b2 := hb.set_ 0 (.slice A3 q c3)
        have HFT := Lib.hid ((Ft.of_below (S := IxS m (.slice A k c)) hF).set (p := ⟨m, 0, none⟩) (.inl (.inl rfl)) (.slice A3 q c3))
        have hne : ∀ z, (Value.slice A3 q c3).ownBlock = some z → z ≠ m := fun z hz => by have := (World.ownsRow.lt HR.out z hz).1; have := HLT.out.1; omega
        have HNE := Lib.hid hne
        clear hb hne
        go_wp2_with fail
        refine bodyPost_ret (v := .int .i64 0) (by simp [results, Tryz.results9, go_sem]) rfl ⟨_, remIt l i, 0, rfl, .inr ⟨by rw [HQ.out, HN.out]; exact he, rfl, rfl⟩, ⟨b2, ?_⟩, HFT.out, fun z hz => .inr (World.ownsRow.lt HR.out z hz).1⟩
        rw [HQ.out]
        exact ownsRow_far (sl_less HR.out (Nat.zero_le _)) HNE.out _
    obtain ⟨g, rfl, y0, y1, y2, y3, y4⟩ := h3.item HN.out hkn
    have HT := Lib.hid (take_it (l := l) (k := k) (by rw [HN.out]; exact hkn))
    obtain ⟨y, hy⟩ : ∃ y, itAt l k = y := ⟨_, rfl⟩
    rw [hy] at y0 y1 y2 y3 y4 HT
    clear hy
    obtain ⟨J, hJ⟩ : ∃ J, y.id = J := ⟨_, rfl⟩
    have HJ := Lib.hid hJ
    rw [hJ] at y0
    clear hJ
    have HR := Lib.hid hR
    by_cases hj : J = i
    · subst hj
      have e : (J == J) = true := by simp
      have hQ2 : Hid ((remIt (l.take (k + 1)) J).length = q) := Lib.hid (by rw [HT.out, rem_no _ _ _ HJ.out]; exact HQ.out)
      have hR2 : wr.ownsRow w.heap.size 32 5 (.slice A3 q c3) q (itc (remIt (l.take (k + 1)) J)) := by rw [HT.out, rem_no _ _ _ HJ.out]; exact HR.out
      clear hR h3 y1 y2 y3 y4
      go_wp2_with fail
      exact ⟨⟨k + 1, q, by omega, by simp only [Int.natCast_add, Int.cast_ofNat_Int], by omega, hQ2, hR2, hF⟩, by simp [intOf]; omega⟩
    · have e : (J == i) = false := by simpa using hj
      have hQ2 : Hid ((remIt (l.take (k + 1)) i).length = q + 1) := Lib.hid (by rw [HT.out, rem_yes _ _ _ (by rw [HJ.out]; exact hj), List.length_append, HQ.out]; rfl)
      have BL := Lib.hid (Blk.new wr 32 #[.int .i64 J, .int .i64 y.a, .int .i64 y.b, .int .i64 y.c, .int .i64 y.d])
      have B4 : Below wr.heap.size wr (wr.alloc (.cells #[.int .i64 J, .int .i64 y.a, .int .i64 y.b, .int .i64 y.c, .int .i64 y.d] 32)) := Ba B0
      have HR4 := Lib.hid (World.ownsRow.kept HR.out (CovW.grown_below B4 none) (by cases (Value.slice A3 q c3).ownBlock <;> simp))
      have HF4 := Lib.hid (Bt hF B4)
      have HMX : Hid (q ≤ 1000) := Lib.hid (by omega)
      have HBZ : Hid (w.heap.size ≤ (wr.alloc (.cells #[.int .i64 J, .int .i64 y.a, .int .i64 y.b, .int .i64 y.c, .int .i64 y.d] 32)).heap.size) := Lib.hid HF4.out.size
      clear hR h3 B4
      go_wp2_with (at_builtin; refine appx_list (base := w.heap.size) (bytes := 40) Tryz.underlying26 item_info rfl (by decide) rfl (.tmp 26) (.tmp 34) rfl (by rfl) (by rfl) HR4.out (lit_rd BL.out rfl) (fun u hu => by simp at hu; rcases hu with h | h | h | h | h <;> rw [h] <;> rfl) (by have := HMX.out; unfold maxLen; omega) (by have := HMX.out; omega) HBZ.out ?_; intro v2 x2 R2 F2; have HR2 := Lib.hid R2; have HF2 := Lib.hid F2; obtain ⟨A2, c2, rfl⟩ := sl_form R2; clear R2 F2)
      refine ⟨⟨k + 1, q + 1, by omega, by simp only [Int.natCast_add, Int.cast_ofNat_Int], by omega, hQ2, ?_, HF4.out.grown HF2.out.1 HBZ.out (fun z hz => (World.ownsRow.lt HR4.out z hz).1)⟩, by simp [intOf]; omega⟩
      rw [HT.out, rem_yes _ _ _ (by rw [HJ.out]; exact hj), itc_app, show itc [y] = [.int .i64 J, .int .i64 y.a, .int .i64 y.b, .int .i64 y.c, .int .i64 y.d] by rw [← HJ.out]; rfl]
      exact HR2.out

set_option maxRecDepth 100000 in
set_option maxHeartbeats 4000000 in
theorem ixSearch_any (m : Nat) (v : Value) (l : List ItV) (a b c d : Int) (w : World) (h : Ix w m v l) (hl : l.length ≤ 1000) :
    Calls Tryz.prog 11 #[.pointer (some ⟨m, 0, none⟩), .agg #[.int .i64 a, .int .i64 b, .int .i64 c, .int .i64 d]] w fun e w' => ∃ u out k, e = .returned (.tuple #[u, .int .i64 k]) ∧ SeaOut l a b c d out k ∧ InRow w' w.heap.size u out ∧ Below w.heap.size w w' := by
  obtain ⟨A, c', rfl⟩ := sl_form h.2
  obtain ⟨n, hn⟩ : ∃ n, l.length = n := ⟨_, rfl⟩
  rw [hn] at hl h
  have HN := Lib.hid hn
  clear hn
  obtain ⟨I, hI⟩ : ∃ I, w.heap.size = I := ⟨_, rfl⟩
  have b1 := Blk.new' w 30 #[.int .i64 a, .int .i64 b, .int .i64 c, .int .i64 d] hI.symm
  have B1 := Ba (w := w) (o := .cells #[.int .i64 a, .int .i64 b, .int .i64 c, .int .i64 d] 30) B0
  have h1 := h.keep B1
  have HI := Lib.hid hI
  obtain ⟨z, hz⟩ := has_bool (Geom.Bx a b c d)
  have HZ := Lib.hid hz
  clear h
  go_enter Tryz.func11, Tryz.ntmps11
  go_upto_region 1 with fail
  try rw [hI]
  clear hI
  generalize w.alloc (.cells #[.int .i64 a, .int .i64 b, .int .i64 c, .int .i64 d] 30) = w1 at *
  have d0 := b1.cell 0
  have d1 := b1.cell 1
  have d2 := b1.cell 2
  have d3 := b1.cell 3
  simp at d0 d1 d2 d3
  go_wp2_with fail
  refine (rbx_any a b c d z w1 hz).mono ?_
  rintro _ w2 ⟨rfl, hb2⟩
  have b2 := b1.keep hb2
  have h2 := h1.keep hb2
  have B2 := Bt B1 hb2
  clear d0 d1 d2 d3 b1 h1 hb2 B1 hz
  cases z
  case false =>
    go_wp2_with fail
    go_ret2
    exact ⟨_, [], 1200, rfl, .inr ⟨fun e => absurd (HZ.out.2 e) (by decide), rfl, rfl⟩, World.ownsRow_nil _ _ _ _, B2⟩
  have HM : Hid (Geom.Bx a b c d) := Lib.hid (HZ.out.1 rfl)
  clear HZ
  go_wp2_with fail
  go_loopw [6, 7] (fun o j W => ∃ (k q : Nat), k ≤ n ∧ j = .int .i64 k ∧ q ≤ k ∧ Hid ((seaIt (l.take k) a b c d).length = q) ∧ W.ownsRow w2.heap.size 3 1 o q (inCells (seaIt (l.take k) a b c d)) ∧ Below w2.heap.size w2 W) (fun _ j _ => n - (intOf j).toNat)
  case atStart => exact ⟨0, 0, Nat.zero_le _, rfl, Nat.le_refl _, Lib.hid (by simp [seaIt]), by simpa [seaIt, inCells] using World.ownsRow_nil w2 w2.heap.size _ _, B0⟩
  case round =>
    obtain ⟨k, q, hk, rfl, hq, HQ, hR, hF⟩ := hrel
    have h3 := h2.keep hF
    have b3 := b2.keep hF
    have a0 := h3.1.cell 0
    simp at a0
    obtain ⟨A3, c3, rfl⟩ := sl_form hR
    have HR := Lib.hid hR
    clear hR
    by_cases hkn : k < n
    case neg =>
      obtain rfl : k = n := by omega
      have hall : l.take k = l := List.take_of_length_le (by rw [HN.out]; exact Nat.le_refl _)
      rw [hall] at HQ HR
      clear h3 b3 hall
      go_wp2_with fail
      go_ret2
      exact ⟨_, seaIt l a b c d, 0, rfl, .inl ⟨HM.out, rfl, rfl⟩, by unfold InRow; rw [HQ.out]; exact sl_less HR.out B2.size, Bt B2 hF⟩
    obtain ⟨g, rfl, y0, y1, y2, y3, y4⟩ := h3.item HN.out hkn
    have HT := Lib.hid (take_it (l := l) (k := k) (by rw [HN.out]; exact hkn))
    obtain ⟨y, hy⟩ : ∃ y, itAt l k = y := ⟨_, rfl⟩
    rw [hy] at y0 y1 y2 y3 y4 HT
    clear hy
    have d0 := b3.cell 0
    have d1 := b3.cell 1
    have d2 := b3.cell 2
    have d3 := b3.cell 3
    simp at d0 d1 d2 d3
    obtain ⟨z, hz⟩ := has_bool (Geom.Mt y.a y.b y.c y.d a b c d)
    have HZ := Lib.hid hz
    go_upto_region 7 with fail
    go_cut [29] (fun s wx => s = .bool z ∧ Below wr.heap.size wr wx)
    case first =>
      clear hz
      refine wp_region_held_drew (S := (fun w' => w'.cell? ⟨m, 0, none⟩ = some (.slice (some ⟨g, 0, none⟩) n c') ∧ w'.cell? ⟨g, k * 5 + 1, none⟩ = some (.int .i64 y.a) ∧ w'.cell? ⟨g, k * 5 + 2, none⟩ = some (.int .i64 y.b) ∧ w'.cell? ⟨g, k * 5 + 3, none⟩ = some (.int .i64 y.c) ∧ w'.cell? ⟨g, k * 5 + 4, none⟩ = some (.int .i64 y.d) ∧ w'.cell? ⟨I, 0, none⟩ = some (.int .i64 a) ∧ w'.cell? ⟨I, 1, none⟩ = some (.int .i64 b) ∧ w'.cell? ⟨I, 2, none⟩ = some (.int .i64 c) ∧ w'.cell? ⟨I, 3, none⟩ = some (.int .i64 d))) (by kernel_rfl) ⟨a0, y1, y2, y3, y4, d0, d1, d2, d3⟩ (fun hHeld => ?_)
      refine wpAnyH_take (i := 0) (v := (.pointer (some ⟨m, 0, none⟩))) rfl (by kernel_rfl) (by kernel_rfl) (by kernel_rfl) (fun _ _ _ h => h) (Or.inl ⟨by rfl, fun w hSw => by (try dsimp only at hSw); go_simp <;> first | rfl | assumption | (simp; omega) | omega⟩) (by assumption) ?_
      try simp only [List.getElem_toArray, List.getElem_cons_zero, List.getElem_cons_succ, Act.put, List.setIfInBounds_toArray, List.set_cons_zero, List.set_cons_succ]
      refine wpAnyH_take (i := 1) (v := (.pointer (some ⟨m, 0, none⟩))) rfl (by kernel_rfl) (by kernel_rfl) (by kernel_rfl) (fun _ _ _ h => h) (Or.inl ⟨by rfl, fun w hSw => by (try dsimp only at hSw); go_simp <;> first | rfl | assumption | (simp; omega) | omega⟩) (by assumption) ?_
      try simp only [List.getElem_toArray, List.getElem_cons_zero, List.getElem_cons_succ, Act.put, List.setIfInBounds_toArray, List.set_cons_zero, List.set_cons_succ]
      refine wpAnyH_take (i := 2) (v := (.pointer (some ⟨m, 0, none⟩))) rfl (by kernel_rfl) (by kernel_rfl) (by kernel_rfl) (fun _ _ _ h => h) (Or.inl ⟨by rfl, fun w hSw => by (try dsimp only at hSw); go_simp <;> first | rfl | assumption | (simp; omega) | omega⟩) (by assumption) ?_
      try simp only [List.getElem_toArray, List.getElem_cons_zero, List.getElem_cons_succ, Act.put, List.setIfInBounds_toArray, List.set_cons_zero, List.set_cons_succ]
      refine wpAnyH_take (i := 3) (v := (.slice (some ⟨g, 0, none⟩) n c')) rfl (by kernel_rfl) (by kernel_rfl) (by kernel_rfl) (fun _ _ _ h => h) (Or.inl ⟨by rfl, fun w hSw => by (try dsimp only at hSw); go_simp <;> first | rfl | assumption | (simp; omega) | omega⟩) (by assumption) ?_
      try simp only [List.getElem_toArray, List.getElem_cons_zero, List.getElem_cons_succ, Act.put, List.setIfInBounds_toArray, List.set_cons_zero, List.set_cons_succ]
      refine wpAnyH_take (i := 4) (v := (.int .i64 k)) rfl (by kernel_rfl) (by kernel_rfl) (by kernel_rfl) (fun _ _ _ h => h) (Or.inl ⟨by rfl, fun w hSw => by (try dsimp only at hSw); go_simp <;> first | rfl | assumption | (simp; omega) | omega⟩) (by assumption) ?_
      try simp only [List.getElem_toArray, List.getElem_cons_zero, List.getElem_cons_succ, Act.put, List.setIfInBounds_toArray, List.set_cons_zero, List.set_cons_succ]
      refine wpAnyH_take (i := 5) (v := (.pointer (some ⟨g, k * 5, none⟩))) rfl (by kernel_rfl) (by kernel_rfl) (by kernel_rfl) (fun _ _ _ h => h) (Or.inl ⟨by rfl, fun w hSw => by (try dsimp only at hSw); go_simp <;> first | rfl | assumption | (simp; omega) | omega⟩) (by assumption) ?_
      try simp only [List.getElem_toArray, List.getElem_cons_zero, List.getElem_cons_succ, Act.put, List.setIfInBounds_toArray, List.set_cons_zero, List.set_cons_succ]
      refine wpAnyH_take (i := 6) (v := (.pointer (some ⟨g, k * 5 + 1, none⟩))) rfl (by kernel_rfl) (by kernel_rfl) (by kernel_rfl) (fun _ _ _ h => h) (Or.inl ⟨by rfl, fun w hSw => by (try dsimp only at hSw); go_simp <;> first | rfl | assumption | (simp; omega) | omega⟩) (by assumption) ?_
      try simp only [List.getElem_toArray, List.getElem_cons_zero, List.getElem_cons_succ, Act.put, List.setIfInBounds_toArray, List.set_cons_zero, List.set_cons_succ]
      refine wpAnyH_take (i := 7) (v := (.agg #[(.int .i64 y.a), (.int .i64 y.b), (.int .i64 y.c), (.int .i64 y.d)])) rfl (by kernel_rfl) (by kernel_rfl) (by kernel_rfl) (fun _ _ _ h => h) (Or.inl ⟨by rfl, fun w hSw => by (try dsimp only at hSw); go_simp <;> first | rfl | assumption | (simp; omega) | omega⟩) (by assumption) ?_
      try simp only [List.getElem_toArray, List.getElem_cons_zero, List.getElem_cons_succ, Act.put, List.setIfInBounds_toArray, List.set_cons_zero, List.set_cons_succ]
      refine wpAnyH_take (i := 8) (v := (.agg #[(.int .i64 a), (.int .i64 b), (.int .i64 c), (.int .i64 d)])) rfl (by kernel_rfl) (by kernel_rfl) (by kernel_rfl) (fun _ _ _ h => h) (Or.inl ⟨by rfl, fun w hSw => by (try dsimp only at hSw); go_simp <;> first | rfl | assumption | (simp; omega) | omega⟩) (by assumption) ?_
      try simp only [List.getElem_toArray, List.getElem_cons_zero, List.getElem_cons_succ, Act.put, List.setIfInBounds_toArray, List.set_cons_zero, List.set_cons_succ]
      refine wpAnyH_ready (rs := [9]) (by kernel_rfl) (by simp) ?_
      refine AllReadyH.cons rfl (fun K hK => ?_) AllReadyH.nil
      go_simp
      refine (rmt_any y.a y.b y.c y.d a b c d z _ HZ.out).mono ?_
      rintro e wA ⟨rfl, hbA⟩
      refine hK.out _ _ (kd9 hbA hHeld) (fun hHeld1 => ?_)
      clear hK K hHeld
      try simp only [List.getElem_toArray, List.getElem_cons_zero, List.getElem_cons_succ, Act.put, List.setIfInBounds_toArray, List.set_cons_zero, List.set_cons_succ]
      refine wpAnyH_done (by kernel_rfl) ?_ _
      go_wp2_with fail
      go_meet
      exact ⟨rfl, (Bd B0).trans hbA⟩
    case rest =>
    obtain ⟨rfl, hb⟩ := hcut
    have hF5 := Bt hF hb
    have a5 := (h3.keep hb).1.cell 0
    have y5 := cell_keep hb y0
    simp at a5
    have HR5 := Lib.hid (World.ownsRow.kept HR.out (CovW.grown_below hb none) (by cases (Value.slice A3 q c3).ownBlock <;> simp))
    clear h3 b3 d0 d1 d2 d3 y0 y1 y2 y3 y4 a0
    generalize wc = w5 at *
    cases z
    case false =>
      have hno : ¬ Geom.Mt y.a y.b y.c y.d a b c d := fun e => absurd (HZ.out.2 e) (by decide)
      have hQ2 : Hid ((seaIt (l.take (k + 1)) a b c d).length = q) := Lib.hid (by rw [HT.out, sea_no _ _ _ _ _ _ hno]; exact HQ.out)
      have hR2 : w5.ownsRow w2.heap.size 3 1 (.slice A3 q c3) q (inCells (seaIt (l.take (k + 1)) a b c d)) := by rw [HT.out, sea_no _ _ _ _ _ _ hno]; exact HR5.out
      clear hz hno
      go_wp2_with fail
      exact ⟨⟨k + 1, q, by omega, by simp only [Int.natCast_add, Int.cast_ofNat_Int], by omega, hQ2, hR2, hF5⟩, by simp [intOf]; omega⟩
    case true =>
      have hyes : Geom.Mt y.a y.b y.c y.d a b c d := HZ.out.1 rfl
      have hQ2 : Hid ((seaIt (l.take (k + 1)) a b c d).length = q + 1) := Lib.hid (by rw [HT.out, sea_yes _ _ _ _ _ _ hyes, List.length_append, HQ.out]; rfl)
      have HY := Lib.hid hyes
      have BL := Lib.hid (Blk.new w5 3 #[.int .i64 y.id])
      have B6 : Below w5.heap.size w5 (w5.alloc (.cells #[.int .i64 y.id] 3)) := Ba B0
      have HR6 := Lib.hid (World.ownsRow.kept HR5.out (CovW.grown_below B6 none) (by cases (Value.slice A3 q c3).ownBlock <;> simp))
      have HF6 := Lib.hid (Bt hF5 B6)
      have HMX : Hid (q ≤ 1000) := Lib.hid (by omega)
      have HBZ : Hid (w2.heap.size ≤ (w5.alloc (.cells #[.int .i64 y.id] 3)).heap.size) := Lib.hid HF6.out.size
      have HB2 := Lib.hid B2.size
      clear hz hyes B6
      go_wp2_with (at_builtin; refine appx_list (base := w2.heap.size) (bytes := 8) Tryz.underlying43 in_info rfl (by decide) rfl (.tmp 30) (.tmp 39) rfl (by rfl) (by rfl) HR6.out (lit_rd BL.out rfl) (fun u hu => by simp at hu; rw [hu]; rfl) (by have := HMX.out; unfold maxLen; omega) (by have := HMX.out; omega) HBZ.out ?_; intro v2 x2 R2 F2; have HR2 := Lib.hid R2; have HF2 := Lib.hid F2; obtain ⟨A2, c2, rfl⟩ := sl_form R2; clear R2 F2)
      refine ⟨⟨k + 1, q + 1, by omega, by simp only [Int.natCast_add, Int.cast_ofNat_Int], by omega, hQ2, ?_, HF6.out.grown HF2.out.1 HBZ.out (fun z hz => (World.ownsRow.lt HR6.out z hz).1)⟩, by simp [intOf]; omega⟩
      rw [HT.out, sea_yes _ _ _ _ _ _ HY.out, inCells_app]
      exact HR2.out
end Go.Proofs.YtiboonkegjahaaaGreat.IdxW
