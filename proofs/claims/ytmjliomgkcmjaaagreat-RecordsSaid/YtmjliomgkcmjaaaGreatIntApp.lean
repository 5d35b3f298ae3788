import Derived.Deep.RegionHeld
import Derived.StillTail
import Derived.Test.YtmjliomgkcmjaaaGreatShapeRows
import Derived.Test.YtmjliomgkcmjaaaGreatMapOk
import Derived.Laws.AppendOwn
import Derived.Deep.AppendLies
import Derived.Deep.DeepCutAuto
set_option linter.all false
/-! A drawn region whose LAST operation, one that waits for all the others, writes a cell that the region has read: the held condition need not outlive that operation. -/
namespace Go
namespace HeldX
section
variable {P : Program} {ops : Array Oper} {Q : Exit → Act → World → Prop} {md : Region.Mode} {S : World → Prop}

def waitsAllB (md : Region.Mode) (ops : Array Oper) (j : Nat) : Bool := (List.range ops.size).all fun k => decide (k = j) || Region.waitsFor md ops j k

theorem waitsAll_spec {j : Nat} (h : waitsAllB md ops j = true) {k : Nat} (hk : k < ops.size) (hkj : k ≠ j) : Region.waitsFor md ops j k = true := by
  have h1 := List.all_eq_true.1 h k (List.mem_range.2 hk)
  simpa [hkj] using h1

def wpAnyX (P : Program) (md : Region.Mode) (ops : Array Oper) (Q : Exit → Act → World → Prop) (S : World → Prop) : Nat → Array Bool → Act → World → Prop
  | 0, listed, a, w => Region.ready md ops listed = [] ∧ Q .normal a w
  | fuel + 1, listed, a, w =>
    (Region.ready md ops listed = [] → Q .normal a w) ∧
    ∀ i ∈ Region.ready md ops listed, wpOp P ops Q i (fun a' w' => (S w' ∧ wpAnyX P md ops Q S fuel (listed.setIfInBounds i true) a' w') ∨ (waitsAllB md ops i = true ∧ Q .normal a' w')) a w

theorem getD_set_self {l : Array Bool} {i : Nat} : (l.setIfInBounds i true).getD i true = true := by
  rcases Nat.lt_or_ge i l.size with h | h <;> simp [Array.getD, h]

theorem both_ways {l : Array Bool} {k : Nat} (h0 : l.getD k true = false) (h1 : l.getD k false = true) : False := by
  by_cases h : k < l.size
  · simp [Array.getD, h] at h0 h1
    exact absurd h1 (by simp [h0])
  · simp [Array.getD, h] at h1

/-- Of two that are ready neither waits for the other. -/
theorem no_wait {listed : Array Bool} {i j : Nat} (hi : i ∈ Region.ready md ops listed) (hj : j ∈ Region.ready md ops listed) : Region.waitsFor md ops j i = false := by
  cases hw : Region.waitsFor md ops j i with
  | false => rfl
  | true =>
    obtain ⟨o1, ho1, e, he, hb, hon⟩ := Region.waitsFor_spec hw
    obtain ⟨_, o2, ho2, hall⟩ := mem_ready.1 hj
    cases ho1.symm.trans ho2
    exact (both_ways (mem_ready.1 hi).1 (hon ▸ hall e he hb)).elim

theorem ready_last {listed : Array Bool} {i : Nat} (hi : i ∈ Region.ready md ops listed) (h : waitsAllB md ops i = true) : Region.ready md ops (listed.setIfInBounds i true) = [] := by
  refine List.eq_nil_iff_forall_not_mem.2 fun k hk => ?_
  obtain ⟨hun, ok, hok, _⟩ := mem_ready.1 hk
  by_cases hki : k = i
  · subst hki; rw [getD_set_self] at hun; cases hun
  · obtain ⟨oi, hoi, e, he, hb, hon⟩ := Region.waitsFor_spec (waitsAll_spec h (Array.getElem?_eq_some_iff.1 hok).1 hki)
    obtain ⟨_, oi', hoi', hall⟩ := mem_ready.1 hi
    cases hoi.symm.trans hoi'
    rw [getD_set_ne true (Ne.symm hki)] at hun
    exact both_ways hun (hon ▸ hall e he hb)

theorem wpAny_of_X : ∀ (fuel : Nat) (listed : Array Bool) (a : Act) (w : World), wpAnyX P md ops Q S fuel listed a w → wpAny P md ops Q fuel listed a w
  | 0, _, _, _, h => h
  | fuel + 1, listed, _, _, h => ⟨h.1, fun i hi => wpOp_mono (fun a' w' h' => by
      rcases h' with h' | ⟨h1, h2⟩
      · exact wpAny_of_X fuel _ a' w' h'.2
      · have hr := ready_last hi h1
        cases fuel with
        | zero => exact ⟨hr, h2⟩
        | succ n => exact ⟨fun _ => h2, by rw [hr]; simp⟩) (h.2 i hi)⟩

/-- What may come ahead of number i, and is not there yet, is apart from it. -/
def Clear (md : Region.Mode) (ops : Array Oper) (i : Nat) (oi : Oper) (listed : Array Bool) : Prop :=
  ∀ j oj, ops[j]? = some oj → j ≠ i → listed.getD j true = false → (∀ e ∈ oj.after, Region.binds md e = true → e.on ≠ i) → oi.apart ops oj = true

theorem Clear.more {i : Nat} {oi : Oper} {listed : Array Bool} (h : Clear md ops i oi listed) {j : Nat} (hj : listed.getD j true = false) : Clear md ops i oi (listed.setIfInBounds j true) :=
  fun k ok hk hki hun => h k ok hk hki (if e : j = k then e ▸ hj else by rwa [getD_set_ne true e] at hun)

theorem wpAnyX_first {i : Nat} {oi : Oper} {v : Value} (hi : ops[i]? = some oi) (hsel : ∀ (j : Nat) (o : Oper) cs b, ops[j]? = some o → o.op ≠ .select cs b)
    (hQ : ∀ c a w, Q (.panic c) (a.put oi.dst v) w → Q (.panic c) a w) (fuel : Nat) : ∀ (listed : Array Bool) (a : Act) (w : World),
      Clear md ops i oi listed → i ∈ Region.ready md ops listed → YieldsIf P ops S oi v a → S w →
      wpAnyX P md ops Q S fuel (listed.setIfInBounds i true) (a.put oi.dst v) w → wpAnyX P md ops Q S (fuel + 1) listed a w := by
  induction fuel with
  | zero =>
    intro listed a w _ hr hy hS H
    refine ⟨fun h => absurd hr (by simp [h]), fun j hj => ?_⟩
    if e : j = i then exact e ▸ hy.wpOp hi hS (.inl ⟨hS, H⟩)
    else exact absurd (ready_mono hj e) (by simp [H.1])
  | succ fuel ih =>
    intro listed a w hC hr hy hS H
    refine ⟨fun h => absurd hr (by simp [h]), fun j hj => ?_⟩
    if e : j = i then exact e ▸ hy.wpOp hi hS (.inl ⟨hS, H⟩)
    else
      have hno := no_wait hr hj
      obtain ⟨hun, oj, hoj, _⟩ := mem_ready.1 hj
      have hap : oi.apart ops oj = true := hC j oj hoj e hun (fun d hd hb hon => by
        have : Region.waitsFor md ops j i = true := by
          unfold Region.waitsFor
          simp only [hoj]
          exact Array.any_eq_true'.2 ⟨d, hd, by simp [hb, hon]⟩
        simp [hno] at this)
      refine wpOp_mono (fun a' w' h3 => ?_) (wpOp_putIf hoj hap (fun cs b => hsel i oi cs b hi) (fun cs b => hsel j oj cs b hoj) hQ hy (H.2 j (ready_mono hj e)))
      cases h3.2 with
      | inl h4 => exact .inl ⟨h4.1, ih _ a' w' (hC.more hun) (ready_mono hr (Ne.symm e)) h3.1 h4.1 (Array.setIfInBounds_comm _ _ e ▸ h4.2)⟩
      | inr h4 => exact absurd (waitsAll_spec h4.1 (Array.getElem?_eq_some_iff.1 hi).1 (Ne.symm e)) (by simp [hno])

theorem wpAnyX_take {i : Nat} {oi : Oper} {v : Value} {fuel : Nat} {listed : Array Bool} {a : Act} {w : World} (hi : ops[i]? = some oi)
    (hs : Region.noSelect ops = true) (hf : Region.free md ops listed i = true) (hr : (Region.ready md ops listed).contains i = true)
    (hQ : ∀ c a w, Q (.panic c) (a.put oi.dst v) w → Q (.panic c) a w) (hy : YieldsIf P ops S oi v a) (hS : S w)
    (h : wpAnyX P md ops Q S fuel (listed.setIfInBounds i true) (a.put oi.dst v) w) : wpAnyX P md ops Q S (fuel + 1) listed a w :=
  wpAnyX_first hi (Region.noSelect_spec hs) hQ fuel listed a w (Region.free_spec hi hf) (by simpa using hr) hy hS h

theorem wpAnyX_step {i : Nat} {o : Oper} {fuel : Nat} {listed : Array Bool} {a : Act} {w : World} (hr : Region.ready md ops listed = [i]) (ho : ops[i]? = some o)
    (h : ∀ K' : Act → World → Prop, Shut (∀ a w, S w → (S w → wpAnyX P md ops Q S fuel (listed.setIfInBounds i true) a w) → K' a w) → if Region.wanted o (yielded ops a.tmps) = true then Oper.wp P o a w K' Q else K' (a.put o.dst undef) w) :
    wpAnyX P md ops Q S (fuel + 1) listed a w :=
  ⟨fun h0 => by (rw [hr] at h0; cases h0), fun j hj => by
    rw [hr] at hj
    cases List.mem_singleton.1 hj
    exact wpOp_step ho (fun K' hK => h K' (fun a w hS hW => hK a w (.inl ⟨hS, hW hS⟩)))⟩

theorem wpAnyX_last {i : Nat} {o : Oper} {fuel : Nat} {listed : Array Bool} {a : Act} {w : World} (hr : Region.ready md ops listed = [i]) (hall : waitsAllB md ops i = true) (ho : ops[i]? = some o)
    (h : ∀ K' : Act → World → Prop, Shut (∀ a w, Q .normal a w → K' a w) → if Region.wanted o (yielded ops a.tmps) = true then Oper.wp P o a w K' Q else K' (a.put o.dst undef) w) :
    wpAnyX P md ops Q S (fuel + 1) listed a w :=
  ⟨fun h0 => by (rw [hr] at h0; cases h0), fun j hj => by
    rw [hr] at hj
    cases List.mem_singleton.1 hj
    exact wpOp_step ho (fun K' hK => h K' (fun a w hq => hK a w (.inr ⟨hall, hq⟩)))⟩

theorem wp_region_X {id : Nat} {a : Act} {w : World} (hm : P.follows .mixedOrders = true) (hS : S w.drew)
    (h : S w.drew → wpAnyX P .any ops Q S ops.size (Array.replicate ops.size false) a w.drew) : (Code.region id ops true).wp P Q a w :=
  wp_region_any hm (wpAny_of_X _ _ _ _ (h hS))
end
end HeldX
end Go

set_option linter.all false
/-! A drawn region whose last operation writes: two operations that are ready. -/
namespace Go
namespace HeldX
section
variable {P : Program} {ops : Array Oper} {Q : Exit → Act → World → Prop} {md : Region.Mode} {S : World → Prop}
theorem wpAnyX_two {i j : Nat} {o o' : Oper} {fuel : Nat} {listed : Array Bool} {a : Act} {w : World} (hr : Region.ready md ops listed = [i, j]) (ho : ops[i]? = some o) (ho' : ops[j]? = some o')
    (h : ∀ K' : Act → World → Prop, Shut (∀ a w, S w → (S w → wpAnyX P md ops Q S fuel (listed.setIfInBounds i true) a w) → K' a w) → if Region.wanted o (yielded ops a.tmps) = true then Oper.wp P o a w K' Q else K' (a.put o.dst undef) w)
    (h' : ∀ K' : Act → World → Prop, Shut (∀ a w, S w → (S w → wpAnyX P md ops Q S fuel (listed.setIfInBounds j true) a w) → K' a w) → if Region.wanted o' (yielded ops a.tmps) = true then Oper.wp P o' a w K' Q else K' (a.put o'.dst undef) w) :
    wpAnyX P md ops Q S (fuel + 1) listed a w :=
  ⟨fun h0 => by (rw [hr] at h0; cases h0), fun k hk => by
    rw [hr] at hk
    rcases List.mem_cons.1 hk with e | e
    · subst e
      exact wpOp_step ho (fun K' hK => h K' (fun a w hS hW => hK a w (.inl ⟨hS, hW hS⟩)))
    · cases List.mem_singleton.1 e
      exact wpOp_step ho' (fun K' hK => h' K' (fun a w hS hW => hK a w (.inl ⟨hS, hW hS⟩)))⟩
end
end HeldX
end Go

/-
  The walk of CopyFeature: another feature with the same rings.
-/
namespace Go.Proofs.YtmjliomgkcmjaaaGreat.ShpW
open Go.RowKit Shp WideW
set_option linter.all false

/-- What the form's own reach says of a feature's rings. -/
def Szd (rs : List (List P2)) : Prop := rs.length * 24 ≤ 140737488351232 ∧ ∀ r ∈ rs, r.length * 16 ≤ 140737488351232
theorem pnt_info : (Tryz.prog.info? 74).map (fun i => (i.zero, i.size, i.bytes)) = some (some (.agg #[.int .i64 0, .int .i64 0]), 2, 16) := by kernel_rfl
theorem rng_info : (Tryz.prog.info? 75).map (fun i => (i.zero, i.size, i.bytes)) = some (some (.slice none 0 0), 1, 24) := by kernel_rfl
theorem ptCells_len (ps : List P2) : (ptCells ps).length = ps.length * 2 := by
  induction ps with
  | nil => rfl
  | cons p ps ih =>
    have e : ptCells (p :: ps) = .int .i64 p.1 :: .int .i64 p.2 :: ptCells ps := rfl
    rw [e, List.length_cons, List.length_cons, ih, List.length_cons]
    omega
theorem ptCells_one {ps : List P2} {u : Value} (h : u ∈ ptCells ps) : u.oneCell' = true := by
  unfold ptCells at h
  obtain ⟨p, -, h⟩ := List.mem_flatMap.1 h
  simp at h
  rcases h with rfl | rfl <;> rfl
theorem rdp_cells {w : World} {b off : Nat} {ps : List P2} (h : ∀ i, i < ps.length → w.cell? ⟨b, off + i * 2, none⟩ = some (.int .i64 (at_ ps i).1) ∧ w.cell? ⟨b, off + i * 2 + 1, none⟩ = some (.int .i64 (at_ ps i).2)) (j : Nat) (u : Value) (hu : (ptCells ps)[j]? = some u) :
    w.cell? ((⟨b, off, none⟩ : Addr).add j) = some u := by
  have hj : j < ps.length * 2 := by rw [← ptCells_len]; exact (List.getElem?_eq_some_iff.1 hu).1
  have hi : j / 2 < ps.length := by omega
  obtain ⟨c0, c1⟩ := h (j / 2) hi
  obtain ⟨d0, d1⟩ := ptCells_at ps (j / 2) hi
  have ea : (⟨b, off, none⟩ : Addr).add j = ⟨b, off + j, none⟩ := by unfold Addr.add; split <;> simp_all
  rw [ea]
  rcases Nat.mod_two_eq_zero_or_one j with e | e
  · have ej : j / 2 * 2 = j := by omega
    rw [ej] at c0 d0
    rw [c0, ← hu, d0]
  · have ej : j / 2 * 2 + 1 = j := by omega
    rw [Nat.add_assoc, ej] at c1
    rw [ej] at d1
    rw [c1, ← hu, d1]

/-- Behind an append of points that are read to an empty row of the call's own. -/
theorem copy_step {ops : Array Oper} {o : Oper} {a : Act} {w : World} {K : Act → World → Prop} {Q : Exit → Act → World → Prop} {E : Prop} (hgd : o.guard = none) (s x : Operand)
    (ho : o.op = .call { callee := .builtin .append, args := #[s, x], argTypes := #[75, 75] }) {base B : Nat} {v u : Value} {ps : List P2} (hs : a.eval s = v) (hx : a.eval x = u)
    (hown : w.ownsRow base 74 2 v 0 []) (hu : RdP w B u ps) (hz : ps.length * 16 ≤ 140737488351232) (hbase : base ≤ w.heap.size)
    (h : ∀ v' w', PtRow w' base v' ps → w.grownBy w' v.ownBlock → K (a.put o.dst v') w') :
    if Region.wanted o (yielded ops a.tmps) = true then Oper.wp Tryz.prog o a w K Q else E := by
  have hw : Region.wanted o (yielded ops a.tmps) = true := by simp [Region.wanted, hgd]
  rw [if_pos hw]
  obtain ⟨i0, hi0, hz0, hz1, hz2⟩ := info_parts pnt_info
  obtain ⟨A, c, rfl, hl, hA⟩ := hu
  cases A with
  | some ad =>
    refine wp_append_own w s x 75 ho base 74 i0 _ 2 16 Tryz.underlying75 hi0 hz0 hz1 hz2 rfl (by decide) v 0 [] hs hown ad ps.length c (ptCells ps) hx (ptCells_len ps) (fun j u hu => ?_) (fun u hu => ptCells_one hu) (by unfold maxLen; omega) (by omega) hbase (fun v' w' h2 h3 _ => h v' w' (by unfold PtRow; simpa using h2) h3)
    rcases Nat.eq_zero_or_pos ps.length with e | e
    · obtain rfl := List.eq_nil_of_length_eq_zero e
      simp [ptCells] at hu
    · obtain ⟨b, off, e, -, hc⟩ := hA e
      cases e
      exact rdp_cells hc j u hu
  | none =>
    have h0 : ps.length = 0 := by
      rcases Nat.eq_zero_or_pos ps.length with e | e
      · exact e
      · obtain ⟨b, off, e, -⟩ := hA e
        cases e
    obtain rfl := List.eq_nil_of_length_eq_zero h0
    have same : (Builtin.append_ #[75, 75] o.type #[v, .slice none 0 c]).run Tryz.prog w = .ok v w := by
      unfold Builtin.append_
      rcases hown.2 with ⟨rfl, -⟩ | ⟨g, cap, cur, rfl, -, -, hnc, -⟩
      all_goals try have hnc := Nat.zero_le 0
      all_goals simp [run_underlying Tryz.underlying75, hi0, hnc, sizeOf, typeInfo, Builtin.lenOf, Builtin.firstCells, storeCells]
    have hx0 : a.eval x = .slice none 0 c := hx
    unfold Oper.wp
    simp [execOp, ho, resolve, invoke, builtin, hs, hx0, same, Result.andThen]
    exact h v w hown (World.grownBy.refl w _)

theorem kc3 {W W' : World} {a0 a1 a2 : Addr} {v0 v1 v2 : Value} (hb : Below W.heap.size W W') (hh : W.cell? a0 = some v0 ∧ W.cell? a1 = some v1 ∧ W.cell? a2 = some v2) : W'.cell? a0 = some v0 ∧ W'.cell? a1 = some v1 ∧ W'.cell? a2 = some v2 :=
  ⟨cell_keep hb hh.1, cell_keep hb hh.2.1, cell_keep hb hh.2.2⟩
theorem kst3 {W w' : World} {B : Nat} {a0 a1 a2 : Addr} {v0 v1 v2 : Value} (hb : Below B W w') (hh : W.cell? a0 = some v0 ∧ W.cell? a1 = some v1 ∧ W.cell? a2 = some v2) (h0 : a0.block < B) (h1 : a1.block < B) (h2 : a2.block < B) : w'.cell? a0 = some v0 ∧ w'.cell? a1 = some v1 ∧ w'.cell? a2 = some v2 :=
  ⟨(hb.cell h0).trans hh.1, (hb.cell h1).trans hh.2.1, (hb.cell h2).trans hh.2.2⟩
theorem take_ring {rs : List (List P2)} {k : Nat} (h : k < rs.length) : rs.take (k + 1) = rs.take k ++ [rg rs k] := by
  rw [List.take_add_one, List.getElem?_eq_getElem h]
  simp [rg, h]

theorem Blk.under {W W' : World} {B g : Nat} {t : TypeId} {cs : Array Value} (h : Blk W g t cs) (hb : Below B W W') (hg : g < B) : Blk W' g t cs := by
  unfold Blk at *
  rw [hb.block g hg]
  exact h
/-- Behind the append to the copy's own rings and the store of it. -/
theorem RingRow.more {W W0 w1 : World} {n : Nat} {v v' t : Value} {rs : List (List P2)} {r : List P2} {us : List Value} {cs : Array Value} {X : World}
    (h1 : W.ownsRow (n + 1) 75 1 v rs.length us) (h2 : ∀ j, j < rs.length → ∃ u, us[j]? = some u ∧ PtRow W (n + 1) u (rg rs j)) (hW : Below W.heap.size W W0) (ht : PtRow W0 (n + 1) t r) (hb : Blk W n 49 cs) (hB : Below n X W)
    (hg : W0.grownBy w1 v.ownBlock) (hn : w1.ownsRow (n + 1) 75 1 v' (rs.length + 1) (us ++ [t])) :
    Blk w1 n 49 cs ∧ Blk (w1.setCell ⟨n, 2, none⟩ v') n 49 (cs.setIfInBounds 2 v') ∧ RingRow (w1.setCell ⟨n, 2, none⟩ v') (n + 1) v' (rs ++ [r]) ∧ Below n X (w1.setCell ⟨n, 2, none⟩ v') := by
  have hl := hb.lt
  have hw := hW.size
  have h1' : W0.ownsRow (n + 1) 75 1 v rs.length us := h1.kept (grown_below hW none) (by cases v.ownBlock <;> simp)
  have hb1 : Blk w1 n 49 cs := (hb.keep hW).grown hg (fun e => by have := (World.ownsRow.lt h1 n e.symm).1; omega)
  refine ⟨hb1, hb1.set_ 2 v', ?_, ?_⟩
  · refine RingRow.far (a := ⟨n, 2, none⟩) (cs := cs) (g := 0) ?_ hb1 v'
    refine RingRow.snoc (W := W0) h1' (fun j hj => ?_) ht hg hn
    obtain ⟨u, k1, k2⟩ := h2 j hj
    exact ⟨u, k1, k2.kept hW⟩
  · refine Below.setCell (p := ⟨n, 2, none⟩) ?_ (Nat.le_refl n) v'
    exact (hB.trans (hW.mono (by omega))).grown hg (by omega) fun k e => by have := (World.ownsRow.lt h1 k e).1; omega
theorem slice_of_row {W : World} {base n s : Nat} {t : TypeId} {v : Value} {xs : List Value} (h : W.ownsRow base t s v n xs) : ∃ A c, v = .slice A n c := by
  rcases h.2 with ⟨rfl, rfl⟩ | ⟨g, cap, cur, rfl, -⟩
  · exact ⟨_, _, rfl⟩
  · exact ⟨_, _, rfl⟩
theorem row_empty (W : World) (base : Nat) (h : base ≤ W.heap.size) : (W.alloc (Obj.cells #[] 74)).drew.ownsRow base 74 2 (.slice (some ⟨W.heap.size, 0, none⟩) 0 0) 0 [] :=
  ⟨rfl, .inr ⟨_, 0, #[], rfl, h, (show (W.alloc (Obj.cells #[] 74)).heap[W.heap.size]? = _ from Blk.new W 74 #[]), Nat.le_refl _, by unfold maxLen; omega, rfl, rfl⟩⟩
theorem news1 (W : World) (a : Value) (t : TypeId) : ∀ j u, [a][j]? = some u → (W.alloc (Obj.cells #[a] t)).cell? ((⟨W.heap.size, 0, none⟩ : Addr).add j) = some u := by
  intro j u hj
  match j, hj with
  | 0, hj => simp at hj; subst hj; simp [Addr.add]
  | j + 1, hj => simp at hj

set_option maxRecDepth 100000 in
set_option maxHeartbeats 4000000 in
theorem copyT_any (id sh : Int) (rv : Value) (rs : List (List P2)) (w : World) (hR : RdR w w.heap.size rv rs) (hz : Szd rs) :
    Calls Tryz.prog 15 #[.agg #[.int .i64 id, .int .i64 sh, rv]] w fun e w' => ∃ v, e = .returned (.agg #[.int .i64 id, .int .i64 sh, v]) ∧ RingRow w' w.heap.size v rs ∧ Below w.heap.size w w' := by
  obtain ⟨hz1, hz2⟩ := hz
  have HZ := Lib.hid hz2
  clear hz2
  have hR' := hR
  obtain ⟨A, c, rfl, hl, -⟩ := hR'
  have FV : Array Value := #[.int .i64 id, .int .i64 sh, .slice A rs.length c]
  obtain ⟨w1, hw1⟩ : ∃ w1, ((w.alloc (.cells #[.int .i64 id, .int .i64 sh, .slice A rs.length c] 49)).alloc (.cells #[.int .i64 0, .int .i64 0, .slice none 0 0] 49)).alloc (.cells #[.int .i64 id, .int .i64 sh, .slice none 0 0] 49) = w1 := ⟨_, rfl⟩
  have hB1 : Below w.heap.size w w1 := by rw [← hw1]; exact Ba (Ba (Ba B0))
  have bF : Blk w1 w.heap.size 49 #[.int .i64 id, .int .i64 sh, .slice A rs.length c] := by rw [← hw1]; exact Blk.alloc (Blk.alloc (Blk.new _ _ _) _) _
  have bO : Blk w1 (w.heap.size + 1) 49 #[.int .i64 0, .int .i64 0, .slice none 0 0] := by rw [← hw1]; exact Blk.alloc (Blk.new' _ _ _ (by simp)) _
  have bG : Blk w1 (w.heap.size + 1 + 1) 49 #[.int .i64 id, .int .i64 sh, .slice none 0 0] := by rw [← hw1]; exact Blk.new' _ _ _ (by simp)
  have n1 : w1.heap.size = w.heap.size + 1 + 1 + 1 := by rw [← hw1]; simp
  have HW1 := Lib.hid hw1
  clear hw1
  have f2' := bF.cell 2
  simp at f2'
  obtain ⟨G, hG⟩ : ∃ G, w.heap.size + 1 + 1 = G := ⟨_, rfl⟩
  rw [hG] at bG n1
  have HG := Lib.hid hG
  have HN1 := Lib.hid n1
  have lG : w.heap.size + 1 < G := by omega
  clear hG n1
  go_enter Tryz.func15, Tryz.ntmps15
  go_wp2_with fail
  rw [HW1.out, HG.out]
  clear HW1
  go_loopw [4] (fun i W => ∃ k : Nat, k ≤ rs.length ∧ i = .int .i64 k ∧ (∃ v, Blk W G 49 #[.int .i64 id, .int .i64 sh, v] ∧ RingRow W (G + 1) v (rs.take k)) ∧ Below G w1 W) (fun i _ => rs.length - (intOf i).toNat)
  case atStart => exact ⟨0, Nat.zero_le _, rfl, ⟨_, bG, RingRow.nil _ _⟩, Below.refl _ _⟩
  case round =>
    obtain ⟨k, hk, rfl, ⟨v, bV, hV⟩, hBx⟩ := hrel
    have hBw : Below w.heap.size w wr := hB1.trans (hBx.mono (by omega))
    have bF2 := Blk.under bF hBx (by omega)
    have bO2 := Blk.under bO hBx lG
    have f2 := bF2.cell 2
    simp at f2
    by_cases hlt : k < rs.length
    case neg =>
      -- [A
      obtain rfl : k = rs.length := by omega
      rw [List.take_length] at hV
      have g0 := bV.cell 0
      have g1 := bV.cell 1
      have g2 := bV.cell 2
      have z0 := bO2.frozen 0
      have z1 := bO2.frozen 1
      have z2 := bO2.frozen 2
      have o0 := bO2.cell 0
      have o1 := bO2.cell 1
      have o2 := bO2.cell 2
      simp at g0 g1 g2 o0 o1 o2
      have hV' := hV
      obtain ⟨us, hu1, -⟩ := hV'
      obtain ⟨A3, c3, rfl⟩ := slice_of_row hu1
      clear hu1
      go_wp2_with fail
      have bO3 := bO2.set_ 0 (.int .i64 id)
      have bO4 := bO3.set_ 1 (.int .i64 sh)
      have hV1 := RingRow.far (g := 0) (a := ⟨w.heap.size + 1, 0, none⟩) hV bO2 (.int .i64 id)
      have hV2 := RingRow.far (g := 0) (a := ⟨w.heap.size + 1, 1, none⟩) hV1 bO3 (.int .i64 sh)
      have hV3 := RingRow.far (g := 0) (a := ⟨w.heap.size + 1, 2, none⟩) hV2 bO4 (.slice A3 rs.length c3)
      refine bodyPost_ret (v := .agg #[.int .i64 id, .int .i64 sh, .slice A3 rs.length c3]) (by simp [results, Tryz.results15, go_sem, o0, o1, o2]) rfl ⟨_, rfl, hV3.mono (by omega), ?_⟩
      exact Below.setCell (p := ⟨w.heap.size + 1, 2, none⟩) (Below.setCell (p := ⟨w.heap.size + 1, 1, none⟩) (Below.setCell (p := ⟨w.heap.size + 1, 0, none⟩) hBw (Nat.le_succ _) _) (Nat.le_succ _) _) (Nat.le_succ _) _
      -- A]
    -- [B
    obtain ⟨A0, c0, e0, -, hA⟩ := hR
    cases e0
    obtain ⟨b, off, rfl, hb, hc⟩ := hA (by omega)
    obtain ⟨u, hu', hP'⟩ := hc k hlt
    have hu := (hBw.cell (p := ⟨b, off + k, none⟩) hb).trans hu'
    have hP := hP'.on hBw
    have hmem := HZ.out _ (rg_mem (rs := rs) (j := k) (by omega))
    have HT := Lib.hid (take_ring hlt)
    obtain ⟨r, hr⟩ : ∃ r, rg rs k = r := ⟨_, rfl⟩
    rw [hr] at hP hmem HT
    clear hA hc hu' hP' hr
    obtain ⟨us, hu1, hu2⟩ := hV
    have hlk : (rs.take k).length = k := by rw [List.length_take]; omega
    have HLK := Lib.hid hlk
    rw [hlk] at hu1
    obtain ⟨A3, c3, rfl⟩ := slice_of_row hu1
    have g2 := bV.cell 2
    simp at g2
    have H1 := Lib.hid hu1
    have H2 := Lib.hid hu2
    have lw := bV.lt
    clear hlk hu1 hu2
    go_upto_region 5 with fail
    refine HeldX.wp_region_X (S := (fun w' => w'.cell? ⟨G, 2, none⟩ = some (.slice A3 k c3) ∧ w'.cell? ⟨w.heap.size, 2, none⟩ = some (.slice (some ⟨b, off, none⟩) rs.length c) ∧ w'.cell? ⟨b, off + k, none⟩ = some u)) (by kernel_rfl) ⟨g2, f2, hu⟩ (fun hHeld => ?_)
    refine HeldX.wpAnyX_take (i := 0) (v := (.pointer (some ⟨G, 2, none⟩))) rfl (by kernel_rfl) (by kernel_rfl) (by kernel_rfl) (fun _ _ _ h => h) (Or.inl ⟨by rfl, fun w hSw => by (try dsimp only at hSw); go_simp⟩) (by assumption) ?_
    try simp only [List.getElem_toArray, List.getElem_cons_zero, List.getElem_cons_succ, Act.put, List.setIfInBounds_toArray, List.set_cons_zero, List.set_cons_succ]
    refine HeldX.wpAnyX_take (i := 1) (v := (.slice A3 k c3)) rfl (by kernel_rfl) (by kernel_rfl) (by kernel_rfl) (fun _ _ _ h => h) (Or.inl ⟨by rfl, fun w hSw => by (try dsimp only at hSw); go_simp⟩) (by assumption) ?_
    try simp only [List.getElem_toArray, List.getElem_cons_zero, List.getElem_cons_succ, Act.put, List.setIfInBounds_toArray, List.set_cons_zero, List.set_cons_succ]
    refine HeldX.wpAnyX_take (i := 3) (v := (.pointer (some ⟨w.heap.size, 2, none⟩))) rfl (by kernel_rfl) (by kernel_rfl) (by kernel_rfl) (fun _ _ _ h => h) (Or.inl ⟨by rfl, fun w hSw => by (try dsimp only at hSw); go_simp⟩) (by assumption) ?_
    try simp only [List.getElem_toArray, List.getElem_cons_zero, List.getElem_cons_succ, Act.put, List.setIfInBounds_toArray, List.set_cons_zero, List.set_cons_succ]
    refine HeldX.wpAnyX_take (i := 4) (v := (.slice (some ⟨b, off, none⟩) rs.length c)) rfl (by kernel_rfl) (by kernel_rfl) (by kernel_rfl) (fun _ _ _ h => h) (Or.inl ⟨by rfl, fun w hSw => by (try dsimp only at hSw); go_simp⟩) (by assumption) ?_
    try simp only [List.getElem_toArray, List.getElem_cons_zero, List.getElem_cons_succ, Act.put, List.setIfInBounds_toArray, List.set_cons_zero, List.set_cons_succ]
    refine HeldX.wpAnyX_take (i := 5) (v := (.int .i64 k)) rfl (by kernel_rfl) (by kernel_rfl) (by kernel_rfl) (fun _ _ _ h => h) (Or.inl ⟨by rfl, fun w hSw => by (try dsimp only at hSw); go_simp⟩) (by assumption) ?_
    try simp only [List.getElem_toArray, List.getElem_cons_zero, List.getElem_cons_succ, Act.put, List.setIfInBounds_toArray, List.set_cons_zero, List.set_cons_succ]
    refine HeldX.wpAnyX_take (i := 6) (v := (.pointer (some ⟨b, off + k, none⟩))) rfl (by kernel_rfl) (by kernel_rfl) (by kernel_rfl) (fun _ _ _ h => h) (Or.inl ⟨by rfl, fun w hSw => by (try dsimp only at hSw); go_simp⟩) (by assumption) ?_
    try simp only [List.getElem_toArray, List.getElem_cons_zero, List.getElem_cons_succ, Act.put, List.setIfInBounds_toArray, List.set_cons_zero, List.set_cons_succ]
    refine HeldX.wpAnyX_take (i := 7) (v := (u)) rfl (by kernel_rfl) (by kernel_rfl) (by kernel_rfl) (fun _ _ _ h => h) (Or.inl ⟨by rfl, fun w hSw => by (try dsimp only at hSw); go_simp⟩) (by assumption) ?_
    try simp only [List.getElem_toArray, List.getElem_cons_zero, List.getElem_cons_succ, Act.put, List.setIfInBounds_toArray, List.set_cons_zero, List.set_cons_succ]
    refine HeldX.wpAnyX_step (i := 2) (by kernel_rfl) rfl (fun K hK => ?_)
    go_simp
    refine hK.out _ _ (kc3 (Bd (Ba B0)) ⟨g2, f2, hu⟩) (fun hHeld1 => ?_)
    clear hK K hHeld
    try simp only [List.getElem_toArray, List.getElem_cons_zero, List.getElem_cons_succ, Act.put, List.setIfInBounds_toArray, List.set_cons_zero, List.set_cons_succ]
    refine HeldX.wpAnyX_step (i := 8) (by kernel_rfl) rfl (fun K hK => ?_)
    refine copy_step (base := G + 1) (ps := r) rfl (.tmp 19) (.tmp 24) rfl rfl rfl (row_empty wr (G + 1) lw) (hP.on (Bd (Ba B0))) hmem (by simp; omega) ?_
    intro v3 w3 hPt hgr
    have hBy : Below wr.heap.size wr w3 := (Bd (Ba B0)).grown hgr (by simp) (fun q e => by cases e; exact Nat.le_refl _)
    refine hK.out _ _ (kc3 hBy ⟨g2, f2, hu⟩) (fun hHeld2 => ?_)
    clear hK K hHeld1 hgr
    try simp only [List.getElem_toArray, List.getElem_cons_zero, List.getElem_cons_succ, Act.put, List.setIfInBounds_toArray, List.set_cons_zero, List.set_cons_succ]
    obtain ⟨A4, c4, rfl⟩ := slice_of_row hPt
    refine HeldX.wpAnyX_step (i := 9) (by kernel_rfl) rfl (fun K hK => ?_)
    go_simp
    refine hK.out _ _ (kc3 (Bt hBy (Ba B0)) ⟨g2, f2, hu⟩) (fun hHeld3 => ?_)
    clear hK K hHeld2
    try simp only [List.getElem_toArray, List.getElem_cons_zero, List.getElem_cons_succ, Act.put, List.setIfInBounds_toArray, List.set_cons_zero, List.set_cons_succ]
    have hown := (H1.out.kept (grown_below hBy none) (by cases (Value.slice A3 k c3).ownBlock <;> simp)).alloc (Obj.cells #[.slice A4 r.length c4] 75)
    have sz3 := hBy.size
    have hbz : G + 1 ≤ (w3.alloc (Obj.cells #[.slice A4 r.length c4] 75)).heap.size := by simp; omega
    obtain ⟨i0, hi0, hz0, hz3, hz2⟩ := info_parts rng_info
    refine HeldX.wpAnyX_step (i := 10) (by kernel_rfl) rfl (fun K hK => ?_)
    refine step_append_lies _ (by rfl) (.tmp 18) (.tmp 26) _ (by rfl) (G + 1) 75 i0 _ 1 24 Tryz.underlying47 hi0 hz0 hz3 hz2 rfl (by decide) _ _ _ (by rfl) hown ⟨w3.heap.size, 0, none⟩ 1 1 [.slice A4 r.length c4] (by rfl) rfl (news1 _ _ _) (by intro x hx; simp at hx; subst hx; rfl) (by decide) (by unfold maxLen; omega) (by omega) hbz _ rfl ?_
    intro g cap w4 hown' hgrow hg hgl
    have hB4 : Below (G + 1) wr w4 := ((Bt hBy (Ba B0)).mono lw).grown hgrow hbz (fun q e => (World.ownsRow.lt H1.out q e).1)
    refine hK.out _ _ (kst3 hB4 ⟨g2, f2, hu⟩ (by show G < _; omega) (by show w.heap.size < _; omega) (by show b < _; omega)) (fun hHeld4 => ?_)
    have RR := RingRow.more (rs := rs.take k) (W := wr) (W0 := w3.alloc (Obj.cells #[.slice A4 r.length c4] 75)) (by rw [HLK.out]; exact H1.out) H2.out (Bt hBy (Ba B0)) (World.ownsRow.alloc hPt (Obj.cells #[.slice A4 r.length c4] 75)) bV hBx hgrow (by rw [HLK.out]; exact hown')
    obtain ⟨R1, R2, R3, R4⟩ := RR
    clear hK K hHeld3 hown hgrow hown' hbz hi0 hz0 hz3 hz2 i0 hg hgl
    try simp only [List.getElem_toArray, List.getElem_cons_zero, List.getElem_cons_succ, Act.put, List.setIfInBounds_toArray, List.set_cons_zero, List.set_cons_succ]
    refine HeldX.wpAnyX_take (i := 11) (v := (.pointer (some ⟨G, 2, none⟩))) rfl (by kernel_rfl) (by kernel_rfl) (by kernel_rfl) (fun _ _ _ h => h) (Or.inl ⟨by rfl, fun w hSw => by (try dsimp only at hSw); go_simp⟩) (by assumption) ?_
    try simp only [List.getElem_toArray, List.getElem_cons_zero, List.getElem_cons_succ, Act.put, List.setIfInBounds_toArray, List.set_cons_zero, List.set_cons_succ]
    have f2x := R1.frozen 2
    have c2x := R1.cell 2
    simp at c2x R2
    refine HeldX.wpAnyX_last (i := 12) (by kernel_rfl) (by kernel_rfl) rfl (fun K hK => ?_)
    go_simp
    refine hK.out _ _ ?_
    clear hK K hHeld4
    go_wp2_with fail
    go_roundw
    case rel => exact ⟨k + 1, by omega, by go_num, ⟨_, R2, by rw [HT.out]; exact R3⟩, R4⟩
    case measure => simp [intOf]; omega
    -- B]
end Go.Proofs.YtmjliomgkcmjaaaGreat.ShpW

/-
  Appends of integers that are read to a row of the call's own.
-/
namespace Go.Proofs.YtmjliomgkcmjaaaGreat.IntW
open Go.RowKit WideW CovW
set_option linter.all false

theorem rdi_cells {w : World} {b off : Nat} {l : List Int} (h : ∀ i, i < l.length → w.cell? ⟨b, off + i, none⟩ = some (.int .i64 (it l i))) (j : Nat) (u : Value) (hu : (inCells l)[j]? = some u) : w.cell? ((⟨b, off, none⟩ : Addr).add j) = some u := by
  have hj : j < l.length := by rw [← inCells_len]; exact (List.getElem?_eq_some_iff.1 hu).1
  have ea : (⟨b, off, none⟩ : Addr).add j = ⟨b, off + j, none⟩ := by unfold Addr.add; split <;> simp_all
  rw [ea, h j hj, ← hu, inCells_at hj]
theorem row_empty (W : World) (base : Nat) (h : base ≤ W.heap.size) : InRow (W.alloc (Obj.cells #[] 3)) base (.slice (some ⟨W.heap.size, 0, none⟩) 0 0) [] :=
  ⟨rfl, .inr ⟨_, 0, #[], rfl, h, (show (W.alloc (Obj.cells #[] 3)).heap[W.heap.size]? = _ from Blk.new W 3 #[]), Nat.le_refl _, by unfold maxLen; omega, rfl, rfl⟩⟩

/-- At an append of integers that are read to a row of the call's own. -/
theorem app_wp {o : Oper} {a : Act} {w : World} {K : Act → World → Prop} {Q : Exit → Act → World → Prop} (s x : Operand)
    (ho : o.op = .call { callee := .builtin .append, args := #[s, x], argTypes := #[24, 24] }) {base B : Nat} {v u : Value} {l m : List Int} (hs : a.eval s = v) (hx : a.eval x = u)
    (hown : InRow w base v l) (hu : RdI w B u m) (hz : (l.length + m.length) * 8 ≤ 140737488355328) (hbase : base ≤ w.heap.size)
    (h : ∀ v' w', InRow w' base v' (l ++ m) → Frm w w' v v' → K (a.put o.dst v') w') : Oper.wp Tryz.prog o a w K Q := by
  obtain ⟨i0, hi0, hz0, hz1, hz2⟩ := infoP in_info
  obtain ⟨A, c, rfl, hl, hA⟩ := hu
  rcases Nat.eq_zero_or_pos m.length with h0 | h0
  · obtain rfl := List.eq_nil_of_length_eq_zero h0
    have same : (Builtin.append_ #[24, 24] o.type #[v, .slice A 0 c]).run Tryz.prog w = .ok v w := by
      unfold Builtin.append_
      rcases hown.2 with ⟨rfl, hln⟩ | ⟨g, cap, cur, rfl, -, -, hnc, -⟩
      · cases A <;> simp [run_underlying Tryz.underlying24, hi0, sizeOf, typeInfo, Builtin.lenOf, Builtin.firstCells, storeCells, loadCells, loadCellsFrom]
      · cases A <;> simp [run_underlying Tryz.underlying24, hi0, hnc, sizeOf, typeInfo, Builtin.lenOf, Builtin.firstCells, storeCells, loadCells, loadCellsFrom]
    have hx0 : a.eval x = .slice A 0 c := hx
    unfold Oper.wp
    simp [execOp, ho, resolve, invoke, builtin, hs, hx0, same, Result.andThen]
    exact h v w (by rw [List.append_nil]; exact hown) (Frm.refl w v)
  · obtain ⟨b, off, rfl, -, hc⟩ := hA h0
    refine wp_append_lies w s x 24 ho base 3 i0 _ 1 8 Tryz.underlying24 hi0 hz0 hz1 hz2 rfl (by decide) v l.length (inCells l) hs hown ⟨b, off, none⟩ m.length c (inCells m) hx (by rw [inCells_len]; omega) (rdi_cells hc) (fun u hu => inCells_one hu) h0 (by unfold maxLen; omega) (by omega) hbase w.heap.size rfl ?_
    intro g cap w' hr hg hat hlt
    refine h _ w' (by unfold InRow; rw [List.length_append, inCells_app]; exact hr) ⟨hg, fun k hk => ?_⟩
    have e : g = k := by simpa [Value.ownBlock] using hk
    subst e
    rcases hat with h | h
    · exact .inl h
    · exact .inr (by omega)
theorem app_step {ops : Array Oper} {o : Oper} {a : Act} {w : World} {K : Act → World → Prop} {Q : Exit → Act → World → Prop} {E : Prop} (hgd : o.guard = none) (s x : Operand)
    (ho : o.op = .call { callee := .builtin .append, args := #[s, x], argTypes := #[24, 24] }) {base B : Nat} {v u : Value} {l m : List Int} (hs : a.eval s = v) (hx : a.eval x = u)
    (hown : InRow w base v l) (hu : RdI w B u m) (hz : (l.length + m.length) * 8 ≤ 140737488355328) (hbase : base ≤ w.heap.size)
    (h : ∀ v' w', InRow w' base v' (l ++ m) → Frm w w' v v' → K (a.put o.dst v') w') : if Region.wanted o (yielded ops a.tmps) = true then Oper.wp Tryz.prog o a w K Q else E := by
  have hw : Region.wanted o (yielded ops a.tmps) = true := by simp [Region.wanted, hgd]
  rw [if_pos hw]
  exact app_wp s x ho hs hx hown hu hz hbase h
theorem app_list {ops : Array Oper} {rest : List Oper} {o : Oper} {a : Act} {w : World} {Q : Exit → Act → World → Prop} (hgd : o.guard = none) (s x : Operand)
    (ho : o.op = .call { callee := .builtin .append, args := #[s, x], argTypes := #[24, 24] }) {base B : Nat} {v u : Value} {l m : List Int} (hs : a.eval s = v) (hx : a.eval x = u)
    (hown : InRow w base v l) (hu : RdI w B u m) (hz : (l.length + m.length) * 8 ≤ 140737488355328) (hbase : base ≤ w.heap.size)
    (h : ∀ v' w', InRow w' base v' (l ++ m) → Frm w w' v v' → wpList Tryz.prog ops Q rest (a.put o.dst v') w') : wpList Tryz.prog ops Q (o :: rest) a w := by
  refine wpList_plain hgd fun K hK => ?_
  exact app_wp s x ho hs hx hown hu hz hbase (fun v' w' h1 h2 => hK _ _ (h v' w' h1 h2))
end Go.Proofs.YtmjliomgkcmjaaaGreat.IntW
