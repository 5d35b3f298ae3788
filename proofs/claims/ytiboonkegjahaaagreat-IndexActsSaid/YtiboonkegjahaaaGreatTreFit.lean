import Derived.Test.YtiboonkegjahaaaGreatSlRow
import Derived.Test.YtiboonkegjahaaaGreatGeomCross
import Derived.Lib.SliceRun
import Derived.Deep.MidRow
import Derived.LoopTactic
import Derived.Test.YtiboonkegjahaaaGreatTreBox
import Derived.Test.YtiboonkegjahaaaGreatTreCmp
/-
  Entries of a node, and rows of them in memory.
-/
namespace Go.Proofs.YtiboonkegjahaaaGreat.TreW
open Go.RowKit WideW CovW SlW
set_option linter.all false

/-- Where a node lies. -/
def pa : Option Nat → Option Addr
  | none => none
  | some n => some ⟨n, 0, none⟩
theorem pa_inj {x y : Option Nat} (h : pa x = pa y) : x = y := by
  cases x <;> cases y <;> simp [pa] at h <;> simp [h]
structure En where
  id : Int
  a : Int
  b : Int
  c : Int
  d : Int
  below : Option Nat
theorem En.eq {x y : En} (h0 : x.id = y.id) (h1 : x.a = y.a) (h2 : x.b = y.b) (h3 : x.c = y.c) (h4 : x.d = y.d) (h5 : x.below = y.below) : x = y := by
  cases x; cases y; simp_all
def en0 : En := ⟨0, 0, 0, 0, 0, none⟩
def enAt (l : List En) (i : Nat) : En := l[i]?.getD en0
theorem enAt_eq {l : List En} {i : Nat} (h : i < l.length) : enAt l i = l[i] := by simp [enAt, h]
theorem enAt_mem {l : List En} {i : Nat} (h : i < l.length) : enAt l i ∈ l := by rw [enAt_eq h]; exact List.getElem_mem h
def ev (e : En) : Value := .agg #[.int .i64 e.id, .int .i64 e.a, .int .i64 e.b, .int .i64 e.c, .int .i64 e.d, .pointer (pa e.below)]
def ec (e : En) : List Value := [.int .i64 e.id, .int .i64 e.a, .int .i64 e.b, .int .i64 e.c, .int .i64 e.d, .pointer (pa e.below)]
def ecs (l : List En) : List Value := l.flatMap ec
theorem ecs_cons (x : En) (l : List En) : ecs (x :: l) = ec x ++ ecs l := rfl
theorem ecs_app (l m : List En) : ecs (l ++ m) = ecs l ++ ecs m := by simp [ecs]
theorem ecs_len : ∀ l : List En, (ecs l).length = l.length * 6
  | [] => rfl
  | x :: l => by
    rw [ecs_cons, List.length_append, ecs_len l]
    simp only [ec, List.length_cons, List.length_nil]
    omega
theorem ec_one {e : En} {u : Value} (h : u ∈ ec e) : u.oneCell' = true := by
  simp [ec] at h
  rcases h with rfl | rfl | rfl | rfl | rfl | rfl
  all_goals try rfl
  
theorem ecs_one {l : List En} {u : Value} (h : u ∈ ecs l) : u.oneCell' = true := by
  obtain ⟨p, -, h⟩ := List.mem_flatMap.1 h
  exact ec_one h
theorem ecs_at : ∀ (l : List En) (i : Nat), i < l.length → ∀ j, j < 6 → (ecs l)[i * 6 + j]? = (ec (enAt l i))[j]?
  | [], _, h => by simp at h
  | x :: l, 0, _ => fun j hj => by
    rw [ecs_cons, Nat.zero_mul, Nat.zero_add, List.getElem?_append_left (by simpa [ec] using hj)]
    simp [enAt]
  | x :: l, i + 1, h => fun j hj => by
    have ih := ecs_at l i (by simpa using h) j hj
    have e2 : enAt (x :: l) (i + 1) = enAt l i := by simp [enAt]
    rw [ecs_cons, e2, List.getElem?_append_right (by simp [ec]; omega), ← ih]
    congr 1
    simp [ec]
    omega
theorem ecs_inj : ∀ {l m : List En}, ecs l = ecs m → l = m
  | [], [], _ => rfl
  | [], y :: m, h => by simp [ecs_cons, ecs, ec] at h
  | x :: l, [], h => by simp [ecs_cons, ecs, ec] at h
  | x :: l, y :: m, h => by
    rw [ecs_cons, ecs_cons] at h
    have h1 := List.append_inj h (by simp [ec])
    have e := h1.1
    simp only [ec, List.cons.injEq, Value.int.injEq, Value.pointer.injEq, true_and, and_true] at e
    obtain ⟨e0, e1, e2, e3, e4, e5⟩ := e
    rw [ecs_inj h1.2, En.eq e0 e1 e2 e3 e4 (pa_inj e5)]

abbrev TE : TypeId := 62
/-- A row of entries, whole in a block of its own. -/
def ERow (w : World) (v : Value) (l : List En) : Prop := w.ownsRow 0 TE 6 v l.length (ecs l)
theorem ent_info : (Tryz.prog.info? TE).map (fun i => (i.zero, i.size, i.bytes)) = some (some (.agg #[.int .i64 0, .int .i64 0, .int .i64 0, .int .i64 0, .int .i64 0, .pointer none]), 6, 48) := by kernel_rfl
section
variable {w w' : World} {v : Value} {l : List En}
theorem ERow.nil (w : World) : ERow w (.slice none 0 0) [] := World.ownsRow_nil w 0 _ _
theorem ERow.form (h : ERow w v l) : ∃ A c, v = .slice A l.length c := by
  rcases h.2 with ⟨rfl, h0⟩ | ⟨g, cap, cur, rfl, -⟩
  · exact ⟨none, 0, by rw [h0]⟩
  · exact ⟨_, _, rfl⟩
theorem ERow.ft {S : Nat → Prop} (h : ERow w v l) (f : Ft S w w') (hn : ∀ q, v.ownBlock = some q → ¬ S q) : ERow w' v l := f.own h hn
theorem ERow.keep (h : ERow w v l) (hb : Below w.heap.size w w') : ERow w' v l := h.ft (S := fun _ => False) (Ft.of_below hb) (fun _ _ => id)
theorem ERow.lt (h : ERow w v l) : ∀ q, v.ownBlock = some q → q < w.heap.size := fun q hq => (World.ownsRow.lt h q hq).2
/-- Where an entry lies. -/
theorem ERow.at (h : ERow w v l) {i : Nat} (hi : i < l.length) : ∃ g c, v = .slice (some ⟨g, 0, none⟩) l.length c ∧ g < w.heap.size ∧ w.cell? ⟨g, i * 6, none⟩ = some (.int .i64 (enAt l i).id) ∧ w.cell? ⟨g, i * 6 + 1, none⟩ = some (.int .i64 (enAt l i).a) ∧ w.cell? ⟨g, i * 6 + 2, none⟩ = some (.int .i64 (enAt l i).b) ∧
    w.cell? ⟨g, i * 6 + 3, none⟩ = some (.int .i64 (enAt l i).c) ∧ w.cell? ⟨g, i * 6 + 4, none⟩ = some (.int .i64 (enAt l i).d) ∧ w.cell? ⟨g, i * 6 + 5, none⟩ = some (.pointer (pa (enAt l i).below)) := by
  have hf : ∃ g c, v = .slice (some ⟨g, 0, none⟩) l.length c := by
    rcases h.2 with ⟨rfl, h⟩ | ⟨g, cap, cur, rfl, -⟩
    · omega
    · exact ⟨_, _, rfl⟩
  obtain ⟨g, c, rfl⟩ := hf
  have lt := h.lt g rfl
  refine ⟨g, c, rfl, lt, ?_⟩
  have K : ∀ j, j < 6 → w.cell? ⟨g, i * 6 + j, none⟩ = (ec (enAt l i))[j]? := fun j hj => by
    rw [World.ownsRow.cellAt h (i * 6 + j) (by omega)]
    exact ecs_at l i hi j hj
  exact ⟨K 0 (by omega), K 1 (by omega), K 2 (by omega), K 3 (by omega), K 4 (by omega), K 5 (by omega)⟩
end

/-- The cells of a row of entries as a block's: h gives the entries in it, f all cells. -/
def EB (w : World) (g cap n : Nat) (l : List En) : Prop := ∃ f, Row w g TE (cap * 6) f ∧ n = l.length ∧ n ≤ cap ∧ cap ≤ maxLen ∧ ∀ i, i < n → ∀ j, j < 6 → some (f (i * 6 + j)) = (ec (enAt l i))[j]?
theorem EB.row {w : World} {g cap n : Nat} {l : List En} (h : EB w g cap n l) : ERow w (.slice (some ⟨g, 0, none⟩) n cap) l := by
  obtain ⟨f, ⟨cs, hb, hs, hc⟩, rfl, hn, hm, hf⟩ := h
  refine ⟨ecs_len l, .inr ⟨g, cap, cs, rfl, Nat.zero_le _, hb, hn, hm, hs, ?_⟩⟩
  apply List.ext_getElem?
  intro k
  by_cases hk : k < l.length * 6
  · rw [List.getElem?_take_of_lt hk, Array.getElem?_toList, hc k (by omega)]
    have e : k = k / 6 * 6 + k % 6 := by omega
    rw [e, hf (k / 6) (by omega) (k % 6) (by omega), ecs_at l (k / 6) (by omega) (k % 6) (by omega)]
  · rw [List.getElem?_eq_none (by rw [List.length_take]; omega), List.getElem?_eq_none (by rw [ecs_len]; omega)]
theorem ERow.eb {w : World} {g cap n : Nat} {l : List En} (h : ERow w (.slice (some ⟨g, 0, none⟩) n cap) l) : EB w g cap n l := by
  obtain ⟨h0, h⟩ := h
  rcases h with ⟨h, -⟩ | ⟨g', cap', cur, e, -, hg, hnc, hcm, hcs, ht⟩
  · simp at h
  · simp only [Value.slice.injEq, Option.some.injEq, Addr.mk.injEq, and_true] at e
    obtain ⟨rfl, rfl, rfl⟩ := e
    refine ⟨fun k => cur.getD k undef, ⟨cur, hg, hcs, fun i hi => ?_⟩, rfl, hnc, hcm, fun i hi j hj => ?_⟩
    · have hi' : i < cur.size := by omega
      simp [hi']
    · have hk : i * 6 + j < l.length * 6 := by omega
      have hk' : i * 6 + j < cur.size := by omega
      rw [← ecs_at l i hi j hj, ← ht, List.getElem?_take_of_lt hk, Array.getElem?_toList]
      simp [hk']
theorem EB.cell {w : World} {g cap n : Nat} {l : List En} (h : EB w g cap n l) {i : Nat} (hi : i < n) : w.cell? ⟨g, i * 6, none⟩ = some (.int .i64 (enAt l i).id) ∧ w.cell? ⟨g, i * 6 + 1, none⟩ = some (.int .i64 (enAt l i).a) ∧ w.cell? ⟨g, i * 6 + 2, none⟩ = some (.int .i64 (enAt l i).b) ∧
    w.cell? ⟨g, i * 6 + 3, none⟩ = some (.int .i64 (enAt l i).c) ∧ w.cell? ⟨g, i * 6 + 4, none⟩ = some (.int .i64 (enAt l i).d) ∧ w.cell? ⟨g, i * 6 + 5, none⟩ = some (.pointer (pa (enAt l i).below)) := by
  obtain ⟨f, hr, e, hn, hm, hf⟩ := h
  have K : ∀ j, j < 6 → w.cell? ⟨g, i * 6 + j, none⟩ = (ec (enAt l i))[j]? := fun j hj => by rw [hr.cell (by omega), hf i hi j hj]
  exact ⟨K 0 (by omega), K 1 (by omega), K 2 (by omega), K 3 (by omega), K 4 (by omega), K 5 (by omega)⟩
/-- An entry is written in its place. -/
theorem EB.put {w : World} {g cap n : Nat} {l : List En} (h : EB w g cap n l) {i : Nat} (hi : i < n) (e : En) :
    EB ((((((w.setCell ⟨g, i * 6, none⟩ (.int .i64 e.id)).setCell ⟨g, i * 6 + 1, none⟩ (.int .i64 e.a)).setCell ⟨g, i * 6 + 2, none⟩ (.int .i64 e.b)).setCell ⟨g, i * 6 + 3, none⟩ (.int .i64 e.c)).setCell ⟨g, i * 6 + 4, none⟩ (.int .i64 e.d)).setCell ⟨g, i * 6 + 5, none⟩ (.pointer (pa e.below))) g cap n (l.set i e) := by
  obtain ⟨f, hr, hl, hn, hm, hf⟩ := h
  refine ⟨_, ((((((hr.set (i * 6) (.int .i64 e.id)).set (i * 6 + 1) (.int .i64 e.a)).set (i * 6 + 2) (.int .i64 e.b)).set (i * 6 + 3) (.int .i64 e.c)).set (i * 6 + 4) (.int .i64 e.d)).set (i * 6 + 5) (.pointer (pa e.below))), by simpa using hl, hn, hm, fun k hk j hj => ?_⟩
  by_cases hki : k = i
  · subst hki
    have e2 : enAt (l.set k e) k = e := by simp [enAt, show k < l.length by omega]
    rw [e2]
    match j, hj with
    | 0, _ => simp [ec]
    | 1, _ => simp [ec]
    | 2, _ => simp [ec]
    | 3, _ => simp [ec]
    | 4, _ => simp [ec]
    | 5, _ => simp [ec]
  · have e2 : enAt (l.set i e) k = enAt l k := by simp [enAt, List.getElem?_set, Ne.symm hki]
    rw [e2, ← hf k hk j hj]
    congr 1
    rw [if_neg (by omega), if_neg (by omega), if_neg (by omega), if_neg (by omega), if_neg (by omega), if_neg (by omega)]
theorem EB.frozen {w : World} {g cap n : Nat} {l : List En} (h : EB w g cap n l) (i : Nat) : w.frozen? ⟨g, i, none⟩ = false := by
  obtain ⟨f, hr, -⟩ := h
  exact hr.frozen i
theorem EB.keep {w w' : World} {g cap n : Nat} {l : List En} (h : EB w g cap n l) (hb : Below w.heap.size w w') : EB w' g cap n l := by
  obtain ⟨f, hr, k⟩ := h
  exact ⟨f, hr.keep hb, k⟩
theorem EB.lt {w : World} {g cap n : Nat} {l : List En} (h : EB w g cap n l) : g < w.heap.size := by
  obtain ⟨f, hr, -⟩ := h
  exact hr.lt
end Go.Proofs.YtiboonkegjahaaaGreat.TreW

/-
  Which node an entry fits best: some entry of the row.
-/
namespace Go.Proofs.YtiboonkegjahaaaGreat.TreW
open Go.RowKit WideW IntW CovW SlW
set_option linter.all false

def En.Bx (e : En) : Prop := Geom.Bx e.a e.b e.c e.d
/-- The call answers some number, and makes memory at most. -/
def IntOut (w : World) (e : Ending) (w' : World) : Prop := ∃ r : Int, e = .returned (.int .i64 r) ∧ Below w.heap.size w w'
theorem cmpW_any (a b c d : Nat) (w : World) (ha : W64 a) (hb : W64 b) (hc : W64 c) (hd : W64 d) :
    Calls Tryz.prog 56 #[.agg #[.int .u64 a, .int .u64 b], .agg #[.int .u64 c, .int .u64 d]] w (IntOut w) :=
  (cmp_any a b c d w ha hb hc hd).mono (fun e w' h => ⟨_, h.1, h.2⟩)
theorem orTwo_any (x y : Int) (w : World) : Calls Tryz.prog 55 #[.slice (some ⟨w.heap.size, 0, none⟩) 2 2] (w.alloc (.cells #[.int .i64 x, .int .i64 y] 3)) fun e w' => e = .returned (.int .i64 (orV [x, y])) ∧ Below (w.alloc (.cells #[.int .i64 x, .int .i64 y] 3)).heap.size (w.alloc (.cells #[.int .i64 x, .int .i64 y] 3)) w' :=
  or_any _ [x, y] _ (lit_ints w [x, y] #[.int .i64 x, .int .i64 y] (by simp [inCells]) (by simp))
theorem orThree_any (x y z : Int) (w : World) : Calls Tryz.prog 55 #[.slice (some ⟨w.heap.size, 0, none⟩) 3 3] (w.alloc (.cells #[.int .i64 x, .int .i64 y, .int .i64 z] 3)) fun e w' => e = .returned (.int .i64 (orV [x, y, z])) ∧ Below (w.alloc (.cells #[.int .i64 x, .int .i64 y, .int .i64 z] 3)).heap.size (w.alloc (.cells #[.int .i64 x, .int .i64 y, .int .i64 z] 3)) w' :=
  or_any _ [x, y, z] _ (lit_ints w [x, y, z] #[.int .i64 x, .int .i64 y, .int .i64 z] (by simp [inCells]) (by simp))
theorem Bt' {w w1 w2 w3 : World} (h : Below w.heap.size w w1) (k : Below w1.heap.size w1 w2) : Below w.heap.size w w2 := Bt h k
/-- Six cells. -/
theorem blk6 {w : World} {b : Nat} {t : TypeId} {x0 x1 x2 x3 x4 x5 : Value} (h : Blk w b t #[x0, x1, x2, x3, x4, x5]) : w.cell? ⟨b, 0, none⟩ = some x0 ∧ w.cell? ⟨b, 1, none⟩ = some x1 ∧ w.cell? ⟨b, 2, none⟩ = some x2 ∧ w.cell? ⟨b, 3, none⟩ = some x3 ∧ w.cell? ⟨b, 4, none⟩ = some x4 ∧ w.cell? ⟨b, 5, none⟩ = some x5 :=
  ⟨h.cell 0, h.cell 1, h.cell 2, h.cell 3, h.cell 4, h.cell 5⟩
set_option maxRecDepth 100000 in
set_option maxHeartbeats 8000000 in
theorem fit_clo (x y : En) (a b c d : Int) (g : Nat) (w : World) (hx : x.Bx) (hy : y.Bx) (hb : Geom.Bx a b c d) (hg : w.cell? ⟨g, 0, none⟩ = some (.int .i64 a) ∧ w.cell? ⟨g, 1, none⟩ = some (.int .i64 b) ∧ w.cell? ⟨g, 2, none⟩ = some (.int .i64 c) ∧ w.cell? ⟨g, 3, none⟩ = some (.int .i64 d)) :
    Calls Tryz.prog 54 #[ev x, ev y, .pointer (some ⟨g, 0, none⟩)] w (IntOut w) := by
  obtain ⟨xi, xa, xb, xc, xd, xn⟩ := x
  obtain ⟨yi, ya, yb, yc, yd, yn⟩ := y
  unfold En.Bx at hx hy
  unfold ev
  dsimp only at *
  generalize pa xn = px
  generalize pa yn = py
  have HX := Lib.hid hx
  have HY := Lib.hid hy
  have HB := Lib.hid hb
  clear hx hy hb
  have B1 : Below w.heap.size w ((w.alloc (.cells #[.int .i64 xi, .int .i64 xa, .int .i64 xb, .int .i64 xc, .int .i64 xd, .pointer px] TE)).alloc (.cells #[.int .i64 yi, .int .i64 ya, .int .i64 yb, .int .i64 yc, .int .i64 yd, .pointer py] TE)) := Ba (Ba B0)
  have g1 := kp4 B1 hg
  have X := blk6 ((Blk.new w TE #[.int .i64 xi, .int .i64 xa, .int .i64 xb, .int .i64 xc, .int .i64 xd, .pointer px]).alloc (.cells #[.int .i64 yi, .int .i64 ya, .int .i64 yb, .int .i64 yc, .int .i64 yd, .pointer py] TE))
  have Y := blk6 (Blk.new' (w.alloc (.cells #[.int .i64 xi, .int .i64 xa, .int .i64 xb, .int .i64 xc, .int .i64 xd, .pointer px] TE)) TE #[.int .i64 yi, .int .i64 ya, .int .i64 yb, .int .i64 yc, .int .i64 yd, .pointer py] (g := w.heap.size + 1) (by simp))
  unfold TE at *
  go_enter Tryz.func54, Tryz.ntmps54
  go_wp2_with fail
  generalize ((w.alloc (.cells #[.int .i64 xi, .int .i64 xa, .int .i64 xb, .int .i64 xc, .int .i64 xd, .pointer px] 62)).alloc (.cells #[.int .i64 yi, .int .i64 ya, .int .i64 yb, .int .i64 yc, .int .i64 yd, .pointer py] 62)) = W at *
  go_region_held3 (fun w' => (w'.cell? ⟨w.heap.size, 1, none⟩ = some (.int .i64 xa) ∧ w'.cell? ⟨w.heap.size, 2, none⟩ = some (.int .i64 xb) ∧ w'.cell? ⟨w.heap.size, 3, none⟩ = some (.int .i64 xc) ∧ w'.cell? ⟨w.heap.size, 4, none⟩ = some (.int .i64 xd) ∧
      w'.cell? ⟨w.heap.size + 1, 1, none⟩ = some (.int .i64 ya) ∧ w'.cell? ⟨w.heap.size + 1, 2, none⟩ = some (.int .i64 yb) ∧ w'.cell? ⟨w.heap.size + 1, 3, none⟩ = some (.int .i64 yc) ∧ w'.cell? ⟨w.heap.size + 1, 4, none⟩ = some (.int .i64 yd) ∧
      w'.cell? ⟨g, 0, none⟩ = some (.int .i64 a) ∧ w'.cell? ⟨g, 1, none⟩ = some (.int .i64 b) ∧ w'.cell? ⟨g, 2, none⟩ = some (.int .i64 c) ∧ w'.cell? ⟨g, 3, none⟩ = some (.int .i64 d)) ∧ Below w.heap.size w w')
    (first | exact ⟨kp12 (Bd B0) ⟨X.2.1, X.2.2.1, X.2.2.2.1, X.2.2.2.2.1, Y.2.1, Y.2.2.1, Y.2.2.2.1, Y.2.2.2.2.1, g1.1, g1.2.1, g1.2.2.1, g1.2.2.2⟩, Bd B1⟩ | assumption | exact ⟨kp12 (by assumption) (And.left (by assumption)), Bt (And.right (by assumption)) (by assumption)⟩ | exact ⟨kp12 (Ba B0) (And.left (by assumption)), Ba (And.right (by assumption))⟩)
    (first
      | (go_at_call 57; (with_reducible refine (growth_any xa xb xc xd a b c d _ HX.out HB.out).mono ?_); rintro _ wA ⟨hA, lA, hA1, hA2, rfl, hbA⟩)
      | (go_at_call 57; (with_reducible refine (growth_any ya yb yc yd a b c d _ HY.out HB.out).mono ?_); rintro _ wB ⟨hB, lB, hB1, hB2, rfl, hbB⟩)
      | (go_at_call 58; (with_reducible refine (area_any xa xb xc xd _ HX.out).mono ?_); rintro _ wC ⟨hC, lC, hC1, hC2, rfl, hbC⟩)
      | (go_at_call 58; (with_reducible refine (area_any ya yb yc yd _ HY.out).mono ?_); rintro _ wD ⟨hD, lD, hD1, hD2, rfl, hbD⟩)
      | (go_at_call 56; (with_reducible refine (cmpW_any _ _ _ _ _ (by assumption) (by assumption) (by assumption) (by assumption)).mono ?_); rintro _ wE ⟨rE, rfl, hbE⟩)
      | (go_at_call 55; (with_reducible refine (orTwo_any _ _ _).mono ?_); rintro _ wF ⟨rfl, hbF⟩))
  all_goals rename_i hh
  all_goals have B := hh.2
  all_goals clear hh
  all_goals go_wp2_with fail
  all_goals go_ret
  all_goals exact ⟨_, rfl, B⟩

/-- Some entry of the row is answered. -/
def SomeEn (l : List En) (w : World) (E : Ending) (w' : World) : Prop := ∃ e, e ∈ l ∧ E = .returned (ev e) ∧ Below w.heap.size w w'
def ecA (e : En) : Array Value := #[.int .i64 e.id, .int .i64 e.a, .int .i64 e.b, .int .i64 e.c, .int .i64 e.d, .pointer (pa e.below)]
theorem blkE {w : World} {b : Nat} {t : TypeId} {e : En} (h : Blk w b t (ecA e)) : w.cell? ⟨b, 0, none⟩ = some (.int .i64 e.id) ∧ w.cell? ⟨b, 1, none⟩ = some (.int .i64 e.a) ∧ w.cell? ⟨b, 2, none⟩ = some (.int .i64 e.b) ∧ w.cell? ⟨b, 3, none⟩ = some (.int .i64 e.c) ∧ w.cell? ⟨b, 4, none⟩ = some (.int .i64 e.d) ∧ w.cell? ⟨b, 5, none⟩ = some (.pointer (pa e.below)) := blk6 h
theorem frz6 {w : World} {b : Nat} {t : TypeId} {cs : Array Value} (h : Blk w b t cs) : w.frozen? ⟨b, 0, none⟩ = false ∧ w.frozen? ⟨b, 1, none⟩ = false ∧ w.frozen? ⟨b, 2, none⟩ = false ∧ w.frozen? ⟨b, 3, none⟩ = false ∧ w.frozen? ⟨b, 4, none⟩ = false ∧ w.frozen? ⟨b, 5, none⟩ = false :=
  ⟨h.frozen 0, h.frozen 1, h.frozen 2, h.frozen 3, h.frozen 4, h.frozen 5⟩
/-- A block of six cells is written over. -/
theorem blkE_set {w : World} {b : Nat} {t : TypeId} {e : En} (h : Blk w b t (ecA e)) (f : En) : Blk ((((((w.setCell ⟨b, 0, none⟩ (.int .i64 f.id)).setCell ⟨b, 1, none⟩ (.int .i64 f.a)).setCell ⟨b, 2, none⟩ (.int .i64 f.b)).setCell ⟨b, 3, none⟩ (.int .i64 f.c)).setCell ⟨b, 4, none⟩ (.int .i64 f.d)).setCell ⟨b, 5, none⟩ (.pointer (pa f.below))) b t (ecA f) :=
  (((((h.set_ 0 (.int .i64 f.id)).set_ 1 (.int .i64 f.a)).set_ 2 (.int .i64 f.b)).set_ 3 (.int .i64 f.c)).set_ 4 (.int .i64 f.d)).set_ 5 (.pointer (pa f.below))
theorem far6 {w : World} {b g : Nat} {t : TypeId} {cs : Array Value} (h : Blk w g t cs) (hb : g ≠ b) (f : En) : Blk ((((((w.setCell ⟨b, 0, none⟩ (.int .i64 f.id)).setCell ⟨b, 1, none⟩ (.int .i64 f.a)).setCell ⟨b, 2, none⟩ (.int .i64 f.b)).setCell ⟨b, 3, none⟩ (.int .i64 f.c)).setCell ⟨b, 4, none⟩ (.int .i64 f.d)).setCell ⟨b, 5, none⟩ (.pointer (pa f.below))) g t cs :=
  (((((h.far (p := ⟨b, 0, none⟩) hb _).far (p := ⟨b, 1, none⟩) hb _).far (p := ⟨b, 2, none⟩) hb _).far (p := ⟨b, 3, none⟩) hb _).far (p := ⟨b, 4, none⟩) hb _).far (p := ⟨b, 5, none⟩) hb _
theorem bs6 {w w' : World} {b : Nat} (h : Below w.heap.size w w') (hb : w.heap.size ≤ b) (f : En) : Below w.heap.size w ((((((w'.setCell ⟨b, 0, none⟩ (.int .i64 f.id)).setCell ⟨b, 1, none⟩ (.int .i64 f.a)).setCell ⟨b, 2, none⟩ (.int .i64 f.b)).setCell ⟨b, 3, none⟩ (.int .i64 f.c)).setCell ⟨b, 4, none⟩ (.int .i64 f.d)).setCell ⟨b, 5, none⟩ (.pointer (pa f.below))) :=
  Bs (Bs (Bs (Bs (Bs (Bs h hb) hb) hb) hb) hb) hb
set_option maxRecDepth 100000 in
set_option maxHeartbeats 8000000 in
theorem min_any (v : Value) (l : List En) (a b c d : Int) (g : Nat) (w : World) (hv : ERow w v l) (hl : l.length ≤ 1000) (h0 : 0 < l.length) (hbx : ∀ e ∈ l, e.Bx) (hb : Geom.Bx a b c d)
    (hg : w.cell? ⟨g, 0, none⟩ = some (.int .i64 a) ∧ w.cell? ⟨g, 1, none⟩ = some (.int .i64 b) ∧ w.cell? ⟨g, 2, none⟩ = some (.int .i64 c) ∧ w.cell? ⟨g, 3, none⟩ = some (.int .i64 d)) :
    Calls Tryz.prog 53 #[v, .func (.func 54) #[] #[.pointer (some ⟨g, 0, none⟩)]] w (SomeEn l w) := by
  obtain ⟨A, c', rfl⟩ := hv.form
  obtain ⟨N, hN⟩ : ∃ N, l.length = N := ⟨_, rfl⟩
  obtain ⟨gg, c2, e1, hgl, x0, x1, x2, x3, x4, x5⟩ := hv.at h0
  simp only [Value.slice.injEq, true_and] at e1
  obtain ⟨rfl, rfl⟩ := e1
  have HV := Lib.hid hv
  rw [hN] at hl h0 HV ⊢
  have HM := Lib.hid (enAt_mem (l := l) (i := 0) (by omega))
  generalize enAt l 0 = y at *
  have HN := Lib.hid hN
  have HBX := Lib.hid hbx
  have HB := Lib.hid hb
  simp only [Nat.zero_mul, Nat.zero_add] at x0 x1 x2 x3 x4 x5
  have T1 := Blk.new w TE (ecA en0)
  have K5 := Blk.new' (w.alloc (.cells (ecA en0) TE)) TE (ecA y) (g := w.heap.size + 1) (by simp)
  have K4 := T1.alloc (.cells (ecA y) TE)
  have B1 : Below w.heap.size w ((w.alloc (.cells (ecA en0) TE)).alloc (.cells (ecA y) TE)) := Ba (Ba B0)
  have hkk : ¬ (N : Int) < 1 := by omega
  unfold TE at *
  clear hv hN hbx hb T1
  go_enter Tryz.func53, Tryz.ntmps53
  go_wp2_with fail
  simp only [ecA, en0, show pa none = none from rfl] at K4 K5 B1
  generalize ((w.alloc (.cells #[.int .i64 0, .int .i64 0, .int .i64 0, .int .i64 0, .int .i64 0, .pointer none] 62)).alloc (.cells #[.int .i64 y.id, .int .i64 y.a, .int .i64 y.b, .int .i64 y.c, .int .i64 y.d, .pointer (pa y.below)] 62)) = W at *
  have HK5 : Hid (Blk W (w.heap.size + 1) 62 (ecA y)) := Lib.hid K5
  have HK4 : Hid (Blk W w.heap.size 62 (ecA en0)) := Lib.hid K4
  have HB1 := Lib.hid B1
  clear K5 K4 B1 x0 x1 x2 x3 x4 x5 hkk
  obtain ⟨G, hG⟩ : ∃ G, w.heap.size = G := ⟨_, rfl⟩
  rw [hG] at hgl HK5 HK4 ⊢
  have HG := Lib.hid hG
  clear hG
  go_loopw [6] (fun i W => ∃ (k : Nat) (e : En), 1 ≤ k ∧ k ≤ N ∧ i = .int .i64 k ∧ Hid (e ∈ l) ∧ Hid (Blk W (G + 1) 62 (ecA e)) ∧ Hid (Blk W G 62 (ecA en0)) ∧ Hid (Below w.heap.size w W)) (fun i _ => N - (intOf i).toNat)
  case atStart => exact ⟨1, y, by omega, by omega, rfl, HM, HK5, HK4, HB1⟩
  case round =>
    obtain ⟨k, e, hk1, hkN, rfl, HE, R5, R4, RB⟩ := hrel
    clear HM HK5 HK4 HB1
    obtain ⟨e0, e1, e2, e3, e4, e5⟩ := blkE R5.out
    obtain ⟨f0, f1, f2, f3, f4, f5⟩ := frz6 R5.out
    by_cases hlt : k < N
    case neg =>
      obtain rfl : k = N := by omega
      obtain ⟨y0, y1, y2, y3, y4, y5⟩ := blkE R4.out
      obtain ⟨q0, q1, q2, q3, q4, q5⟩ := frz6 R4.out
      clear f0 f1 f2 f3 f4 f5
      have HF := Lib.hid (blkE (blkE_set R4.out e))
      have HB2 := Lib.hid (bs6 RB.out (by rw [HG.out]; exact Nat.le_refl _) e (b := G))
      go_wp2_with fail
      generalize World.setCell (World.setCell (World.setCell (World.setCell (World.setCell (World.setCell _ _ _) _ _) _ _) _ _) _ _) _ _ = w5 at *
      obtain ⟨y0, y1, y2, y3, y4, y5⟩ := HF.out
      exact bodyPost_ret (v := ev e) (by simp [results, Tryz.results53, go_sem, y0, y1, y2, y3, y4, y5, ev]) rfl ⟨e, HE.out, rfl, HB2.out⟩
    obtain ⟨gg', c2, e1', -, z0, z1, z2, z3, z4, z5⟩ := (HV.out.keep RB.out).at (i := k) (by rw [HN.out]; exact hlt)
    rw [HN.out] at e1'
    simp only [Value.slice.injEq, Option.some.injEq, Addr.mk.injEq, true_and, and_true] at e1'
    obtain ⟨rfl, rfl⟩ := e1'
    have HZ := Lib.hid (enAt_mem (l := l) (i := k) (by rw [HN.out]; exact hlt))
    generalize enAt l k = z at *
    have g0 := kp4 RB.out hg
    go_wp2_with fail
    have hS : (wr.cell? ⟨gg, k * 6, none⟩ = some (.int .i64 z.id) ∧ wr.cell? ⟨gg, k * 6 + 1, none⟩ = some (.int .i64 z.a) ∧ wr.cell? ⟨gg, k * 6 + 2, none⟩ = some (.int .i64 z.b) ∧ wr.cell? ⟨gg, k * 6 + 3, none⟩ = some (.int .i64 z.c) ∧ wr.cell? ⟨gg, k * 6 + 4, none⟩ = some (.int .i64 z.d) ∧ wr.cell? ⟨gg, k * 6 + 5, none⟩ = some (.pointer (pa z.below)) ∧
        wr.cell? ⟨G + 1, 0, none⟩ = some (.int .i64 e.id) ∧ wr.cell? ⟨G + 1, 1, none⟩ = some (.int .i64 e.a) ∧ wr.cell? ⟨G + 1, 2, none⟩ = some (.int .i64 e.b) ∧ wr.cell? ⟨G + 1, 3, none⟩ = some (.int .i64 e.c) ∧ wr.cell? ⟨G + 1, 4, none⟩ = some (.int .i64 e.d) ∧ wr.cell? ⟨G + 1, 5, none⟩ = some (.pointer (pa e.below))) ∧ (wr.cell? ⟨g, 0, none⟩ = some (.int .i64 a) ∧ wr.cell? ⟨g, 1, none⟩ = some (.int .i64 b) ∧ wr.cell? ⟨g, 2, none⟩ = some (.int .i64 c) ∧ wr.cell? ⟨g, 3, none⟩ = some (.int .i64 d)) ∧ Below wr.heap.size wr wr := ⟨⟨z0, z1, z2, z3, z4, z5, e0, e1, e2, e3, e4, e5⟩, g0, B0⟩
    clear e0 e1 e2 e3 e4 e5 f0 f1 f2 f3 f4 f5 g0 z0 z1 z2 z3 z4 z5
    go_region_held3 (fun w' => (w'.cell? ⟨gg, k * 6, none⟩ = some (.int .i64 z.id) ∧ w'.cell? ⟨gg, k * 6 + 1, none⟩ = some (.int .i64 z.a) ∧ w'.cell? ⟨gg, k * 6 + 2, none⟩ = some (.int .i64 z.b) ∧ w'.cell? ⟨gg, k * 6 + 3, none⟩ = some (.int .i64 z.c) ∧ w'.cell? ⟨gg, k * 6 + 4, none⟩ = some (.int .i64 z.d) ∧ w'.cell? ⟨gg, k * 6 + 5, none⟩ = some (.pointer (pa z.below)) ∧
        w'.cell? ⟨G + 1, 0, none⟩ = some (.int .i64 e.id) ∧ w'.cell? ⟨G + 1, 1, none⟩ = some (.int .i64 e.a) ∧ w'.cell? ⟨G + 1, 2, none⟩ = some (.int .i64 e.b) ∧ w'.cell? ⟨G + 1, 3, none⟩ = some (.int .i64 e.c) ∧ w'.cell? ⟨G + 1, 4, none⟩ = some (.int .i64 e.d) ∧ w'.cell? ⟨G + 1, 5, none⟩ = some (.pointer (pa e.below))) ∧ (w'.cell? ⟨g, 0, none⟩ = some (.int .i64 a) ∧ w'.cell? ⟨g, 1, none⟩ = some (.int .i64 b) ∧ w'.cell? ⟨g, 2, none⟩ = some (.int .i64 c) ∧ w'.cell? ⟨g, 3, none⟩ = some (.int .i64 d)) ∧ Below wr.heap.size wr w')
      (first | exact ⟨kp12 (Bd B0) hS.1, kp4 (Bd B0) hS.2.1, Bd B0⟩ | assumption | exact ⟨kp12 (by assumption) (And.left (by assumption)), kp4 (by assumption) (And.left (And.right (by assumption))), Bt (And.right (And.right (by assumption))) (by assumption)⟩)
      (first | (go_at_call 54; refine (fit_clo z e a b c d g _ (HBX.out z HZ.out) (HBX.out e HE.out) HB.out (And.left (And.right (by assumption)))).mono ?_; rintro _ w2 ⟨r, rfl, hb2⟩))
    rename_i hh
    obtain ⟨⟨z0, z1, z2, z3, z4, z5, e0, e1, e2, e3, e4, e5⟩, -, hb3⟩ := hh
    have R5 := Lib.hid (R5.out.keep hb3)
    have R4 := Lib.hid (R4.out.keep hb3)
    have RB := Lib.hid (Bt RB.out hb3)
    clear hb2 hb3 hS
    obtain ⟨f0, f1, f2, f3, f4, f5⟩ := frz6 R5.out
    by_cases hr : r < 0
    · go_wp2_with fail
      go_roundw
      case rel => exact ⟨k + 1, z, by omega, by omega, by go_num, HZ, Lib.hid (blkE_set R5.out z), Lib.hid (far6 R4.out (by omega) z), Lib.hid (bs6 RB.out (by rw [HG.out]; omega) z)⟩
      case measure => simp [intOf]; omega
    · go_wp2_with fail
      go_roundw
      case rel => exact ⟨k + 1, e, by omega, by omega, by go_num, HE, R5, R4, RB⟩
      case measure => simp [intOf]; omega
end Go.Proofs.YtiboonkegjahaaaGreat.TreW
