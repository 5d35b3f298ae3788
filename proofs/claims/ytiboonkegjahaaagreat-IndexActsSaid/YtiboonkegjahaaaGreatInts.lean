import Derived.Test.YtiboonkegjahaaaGreatGeomCross
import Derived.Laws.AppendOwn
import Derived.Deep.AppendLies
import Derived.LoopTactic
import Derived.BigQuiet
/-
  Frames: what stays beside a row (parted from XPair in round 11).
-/
namespace Go.Proofs.YtiboonkegjahaaaGreat.CovW
open Go.RowKit WideW
set_option linter.all false

/-- From w to w' only the row v may have turned; the row v' is v's, or new. -/
def Frm (w w' : World) (v v' : Value) : Prop := w.grownBy w' v.ownBlock ∧ ∀ k, v'.ownBlock = some k → v.ownBlock = some k ∨ w.heap.size ≤ k

section
variable {w w' w'' : World} {v v' v'' : Value}
theorem grown_below {W W' : World} (h : Below W.heap.size W W') (row : Option Nat) : W.grownBy W' row :=
  ⟨h.os, h.tape, h.output, h.size, fun k hk _ => h.block k hk⟩
theorem Frm.refl (w : World) (v : Value) : Frm w w v v := ⟨World.grownBy.refl w _, fun _ h => .inl h⟩
theorem Frm.of_below (h : Below w.heap.size w w') (v : Value) : Frm w w' v v := ⟨grown_below h _, fun _ h => .inl h⟩
theorem Frm.trans (h : Frm w w' v v') (k : Frm w' w'' v' v'') : Frm w w'' v v'' := by
  refine ⟨⟨k.1.os.trans h.1.os, k.1.tape.trans h.1.tape, k.1.output.trans h.1.output, Nat.le_trans h.1.size k.1.size, fun b hb hne => ?_⟩, fun b hb => ?_⟩
  · refine (k.1.block b (Nat.lt_of_lt_of_le hb h.1.size) (fun e => ?_)).trans (h.1.block b hb hne)
    rcases h.2 b e.symm with x | x
    · exact hne x.symm
    · omega
  · rcases k.2 b hb with x | x
    · exact h.2 b x
    · exact .inr (Nat.le_trans h.1.size x)
/-- A block beside the row stays. -/
theorem Frm.block (h : Frm w w' v v') {b : Nat} (hb : b < w.heap.size) (hne : some b ≠ v.ownBlock) : w'.heap[b]? = w.heap[b]? ∧ some b ≠ v'.ownBlock :=
  ⟨h.1.block b hb hne, fun e => by
    rcases h.2 b e.symm with x | x
    · exact hne x.symm
    · omega⟩
theorem Frm.cell (h : Frm w w' v v') {a : Addr} {u : Value} (hu : w.cell? a = some u) (hne : some a.block ≠ v.ownBlock) : w'.cell? a = some u := h.1.cell hu hne
theorem Frm.two (h : Frm w w' v v') {b : Nat} {x y : Value} (hne : some b ≠ v.ownBlock) (k : Two w b x y) : Two w' b x y :=
  ⟨Nat.lt_of_lt_of_le k.1 h.1.size, h.cell k.2.1 hne, h.cell k.2.2 hne⟩
theorem Frm.four (h : Frm w w' v v') {b : Nat} {x y z u : Value} (hne : some b ≠ v.ownBlock) (k : Four w b x y z u) : Four w' b x y z u :=
  ⟨Nat.lt_of_lt_of_le k.1 h.1.size, h.cell k.2.1 hne, h.cell k.2.2.1 hne, h.cell k.2.2.2.1 hne, h.cell k.2.2.2.2 hne⟩
end
theorem infoP {P : Program} {t : TypeId} {z : Value} {s b : Nat} (h : (P.info? t).map (fun i => (i.zero, i.size, i.bytes)) = some (some z, s, b)) : ∃ i, P.info? t = some i ∧ i.zero = some z ∧ i.size = s ∧ i.bytes = b := by
  cases hi : P.info? t with
  | none => rw [hi] at h; simp at h
  | some i => rw [hi] at h; simp at h; exact ⟨i, rfl, h.1, h.2.1, h.2.2⟩
theorem news2 (W : World) (a b : Value) (t : TypeId) : ∀ j u, [a, b][j]? = some u → (W.alloc (Obj.cells #[a, b] t)).cell? ((⟨W.heap.size, 0, none⟩ : Addr).add j) = some u := by
  intro j u hj
  match j, hj with
  | 0, hj => simp at hj; subst hj; simp [Addr.add]
  | 1, hj => simp at hj; subst hj; simp [Addr.add]
  | j + 2, hj => simp at hj
end Go.Proofs.YtiboonkegjahaaaGreat.CovW

/-
  Slices of integers: what they read as (parted from XInts in round 8).
-/
namespace Go.Proofs.YtiboonkegjahaaaGreat.IntW
open Go.RowKit WideW
set_option linter.all false

def inCells (l : List Int) : List Value := l.map (fun x => .int .i64 x)
theorem inCells_len (l : List Int) : (inCells l).length = l.length := by simp [inCells]
theorem inCells_app (l m : List Int) : inCells (l ++ m) = inCells l ++ inCells m := by simp [inCells]
theorem inCells_one {l : List Int} {u : Value} (h : u ∈ inCells l) : u.oneCell' = true := by
  unfold inCells at h
  obtain ⟨p, -, rfl⟩ := List.mem_map.1 h
  rfl
/-- The number at a place. -/
def it (l : List Int) (i : Nat) : Int := l[i]?.getD 0
theorem it_eq {l : List Int} {i : Nat} (h : i < l.length) : it l i = l[i] := by simp [it, h]
theorem it_mem {l : List Int} {i : Nat} (h : i < l.length) : it l i ∈ l := by rw [it_eq h]; exact List.getElem_mem h
theorem inCells_at {l : List Int} {i : Nat} (h : i < l.length) : (inCells l)[i]? = some (.int .i64 (it l i)) := by
  rw [it_eq h]; simp [inCells, h]
theorem ints_eq {l m : List Int} : l = m ↔ l.length = m.length ∧ ∀ j, j < l.length → it l j = it m j := by
  constructor
  · rintro rfl; exact ⟨rfl, fun _ _ => rfl⟩
  · rintro ⟨h, k⟩
    apply List.ext_getElem h
    intro j h1 h2
    have := k j h1
    rwa [it_eq h1, it_eq h2] at this

/-- A slice that reads as integers, in a block below B. -/
def RdI (w : World) (B : Nat) (v : Value) (l : List Int) : Prop :=
  ∃ A c, v = .slice A l.length c ∧ l.length ≤ 9223372036854775807 ∧ (0 < l.length → ∃ b off, A = some ⟨b, off, none⟩ ∧ b < B ∧
    ∀ i, i < l.length → w.cell? ⟨b, off + i, none⟩ = some (.int .i64 (it l i)))
section
variable {w w' w'' : World} {B B' : Nat} {v v' v'' : Value} {l : List Int}
theorem RdI.keep (h : RdI w B v l) (hk : ∀ p : Addr, p.block < B → w'.cell? p = w.cell? p) : RdI w' B v l := by
  obtain ⟨A, c, e, hl, h⟩ := h
  refine ⟨A, c, e, hl, fun h0 => ?_⟩
  obtain ⟨b, off, rfl, hb, hc⟩ := h h0
  exact ⟨b, off, rfl, hb, fun i hi => (hk _ hb).trans (hc i hi)⟩
theorem RdI.more (h : RdI w B v l) (hB : B ≤ B') : RdI w B' v l := by
  obtain ⟨A, c, e, hl, h⟩ := h
  refine ⟨A, c, e, hl, fun h0 => ?_⟩
  obtain ⟨b, off, rfl, hb, hc⟩ := h h0
  exact ⟨b, off, rfl, by omega, hc⟩
theorem RdI.below (h : RdI w B v l) (hb : Below B w w') : RdI w' B v l := h.keep fun _ hp => hb.cell hp
theorem RdI.on (h : RdI w w.heap.size v l) (hb : Below w.heap.size w w') : RdI w' w'.heap.size v l := (h.below hb).more hb.size
theorem RdI.nil (w : World) (B c : Nat) (A : Option Addr) : RdI w B (.slice A 0 c) [] := ⟨A, c, rfl, by simp, fun h => by simp at h⟩
end
end Go.Proofs.YtiboonkegjahaaaGreat.IntW

/-
  Slices of integers: what they read as, rows of the call's own; SameInts.
-/
namespace Go.Proofs.YtiboonkegjahaaaGreat.IntW
open Go.RowKit WideW
set_option linter.all false

/-- A row of integers of the call's own. -/
def InRow (W : World) (base : Nat) (v : Value) (l : List Int) : Prop := W.ownsRow base 3 1 v l.length (inCells l)
section
variable {w w' w'' : World} {B B' : Nat} {v v' v'' : Value} {l : List Int}
theorem InRow.nil (w : World) (base : Nat) : InRow w base (.slice none 0 0) [] := World.ownsRow_nil w base _ _
theorem InRow.kept {base : Nat} (h : InRow w base v l) (hb : Below w.heap.size w w') : InRow w' base v l :=
  World.ownsRow.kept h (CovW.grown_below hb none) (by cases v.ownBlock <;> simp)
theorem InRow.mono {base base' : Nat} (h : InRow w base v l) (hb : base' ≤ base) : InRow w base' v l := by
  refine ⟨h.1, ?_⟩
  rcases h.2 with h | ⟨g, cap, cur, e, k, r⟩
  · exact .inl h
  · exact .inr ⟨g, cap, cur, e, by omega, r⟩
theorem InRow.read {base : Nat} (h : InRow w base v l) (hl : l.length ≤ 9223372036854775807) : RdI w w.heap.size v l := by
  have hlt := World.ownsRow.lt h
  have hc := fun g => World.ownsRow.cells (g := g) h
  rcases h.2 with ⟨rfl, h0⟩ | ⟨g, cap, cur, rfl, -⟩
  · exact ⟨none, 0, by rw [h0], hl, fun h => by omega⟩
  · refine ⟨_, _, rfl, hl, fun h0 => ⟨g, 0, rfl, (hlt g rfl).2, fun i hi => ?_⟩⟩
    have c1 := hc g rfl _ _ (inCells_at hi)
    have ea : ∀ j, (⟨g, 0, none⟩ : Addr).add j = ⟨g, j, none⟩ := fun j => by unfold Addr.add; split <;> simp_all
    rw [ea] at c1
    rw [Nat.zero_add]
    exact c1
theorem InRow.slice {base : Nat} (h : InRow w base v l) : ∃ A c, v = .slice A l.length c := by
  rcases h.2 with ⟨rfl, h0⟩ | ⟨g, cap, cur, rfl, -⟩
  · exact ⟨none, 0, by rw [h0]⟩
  · exact ⟨_, _, rfl⟩
end
theorem in_info : (Tryz.prog.info? 3).map (fun i => (i.zero, i.size, i.bytes)) = some (some (.int .i64 0), 1, 8) := by kernel_rfl
theorem news1 (W : World) (a : Value) (t : TypeId) : ∀ j u, [a][j]? = some u → (W.alloc (Obj.cells #[a] t)).cell? ((⟨W.heap.size, 0, none⟩ : Addr).add j) = some u := by
  intro j u hj
  match j, hj with
  | 0, hj => simp at hj; subst hj; simp [Addr.add]
  | j + 1, hj => simp at hj
theorem lit_ints (w : World) (l : List Int) (cs : Array Value) (h : cs.toList = inCells l) (hl : l.length ≤ 1000) : RdI (w.alloc (.cells cs 3)) (w.alloc (.cells cs 3)).heap.size (.slice (some ⟨w.heap.size, 0, none⟩) l.length l.length) l := by
  have hs : cs.size = l.length := by rw [← Array.length_toList, h, inCells_len]
  refine InRow.read (base := 0) (l := l) ?_ (by omega)
  have := World.ownsRow_lit (base := 0) (e := 3) (size := 1) w cs l.length (Nat.zero_le _) (by unfold maxLen; omega) (by omega)
  rw [h] at this
  exact this

set_option maxRecDepth 100000 in
set_option maxHeartbeats 4000000 in
theorem sameI_any (v v' : Value) (l m : List Int) (r : Bool) (w : World) (hv : RdI w w.heap.size v l) (hv' : RdI w w.heap.size v' m) (hr : r = true ↔ l = m) :
    Calls Tryz.prog 12 #[v, v'] w fun e w' => e = .returned (.bool r) ∧ Below w.heap.size w w' := by
  have HR := Lib.hid hr
  clear hr
  obtain ⟨A, c, rfl, hl, h1⟩ := hv
  obtain ⟨A', c', rfl, hl', h2⟩ := hv'
  by_cases hlen : l.length = m.length
  case neg =>
    have hb : ((l.length : Int) != (m.length : Int)) = true := by simp; omega
    go_enter Tryz.func12, Tryz.ntmps12
    go_wp2_with fail
    go_ret
    refine ⟨ret_bool (bool_eq HR.out ?_), B0⟩
    simp only [Bool.false_eq_true, false_iff]
    intro e
    exact hlen (by rw [e])
  obtain ⟨n, hn⟩ : ∃ n, n = l.length := ⟨_, rfl⟩
  have hn' : n = m.length := by omega
  rw [← hn] at hl h1 ⊢
  rw [← hn'] at hl' h2 ⊢
  have HN := Lib.hid (And.intro hn hn')
  clear hlen hn hn'
  go_enter Tryz.func12, Tryz.ntmps12
  go_wp2_with fail
  go_loopw [5] (fun i W => ∃ k : Nat, k ≤ n ∧ i = .int .i64 k ∧ Hid (∀ j, j < k → it l j = it m j) ∧ Below w.heap.size w W) (fun i _ => n - (intOf i).toNat)
  case atStart => exact ⟨0, Nat.zero_le _, rfl, Lib.hid (fun j h => absurd h (by omega)), B0⟩
  case round =>
    obtain ⟨k, hk, rfl, HK, hB⟩ := hrel
    by_cases hlt : k < n
    · obtain ⟨b, off, rfl, hb, hc⟩ := h1 (by omega)
      obtain ⟨b', off', rfl, hb', hc'⟩ := h2 (by omega)
      have x0 := (hB.cell (p := ⟨b, off + k, none⟩) hb).trans (hc k hlt)
      have y0 := (hB.cell (p := ⟨b', off' + k, none⟩) hb').trans (hc' k hlt)
      obtain ⟨p, hp⟩ : ∃ p, it l k = p := ⟨_, rfl⟩
      obtain ⟨q, hq⟩ : ∃ q, it m k = q := ⟨_, rfl⟩
      rw [hp] at x0
      rw [hq] at y0
      have HP := Lib.hid (And.intro hp hq)
      clear hp hq h1 h2 hc hc'
      by_cases e0 : p = q
      case neg =>
        have d0 : (p != q) = true := by simpa using e0
        clear e0
        go_wp2_with fail
        go_quiet (fail)
        go_wp2_with fail
        go_ret
        refine ⟨ret_bool (bool_eq HR.out ?_), ⟨hB.os, hB.tape, hB.output, hB.size, hB.block⟩⟩
        simp only [Bool.false_eq_true, false_iff]
        intro e
        have hp := HP.out
        rw [e, hp.2] at hp
        rw [hp.1] at d0
        simp at d0
      have d0 : (p != q) = false := by simpa using e0
      have HE := Lib.hid e0
      clear e0
      go_wp2_with fail
      go_quiet (fail)
      go_wp2_with fail
      go_roundw
      case rel => exact ⟨k + 1, by omega, by go_num, Lib.hid (fun j h => by
        rcases Nat.lt_succ_iff_lt_or_eq.1 h with h | rfl
        · exact HK.out j h
        · rw [HP.out.1, HP.out.2]; exact HE.out), ⟨hB.os, hB.tape, hB.output, hB.size, hB.block⟩⟩
      case measure => simp [intOf]; omega
    · obtain rfl : k = n := by omega
      go_wp2_with fail
      go_ret
      refine ⟨ret_bool (bool_eq HR.out ?_), hB⟩
      simp only [true_iff]
      obtain ⟨h1, h2⟩ := HN.out
      exact ints_eq.2 ⟨by omega, fun j hj => HK.out j (by omega)⟩
end Go.Proofs.YtiboonkegjahaaaGreat.IntW
