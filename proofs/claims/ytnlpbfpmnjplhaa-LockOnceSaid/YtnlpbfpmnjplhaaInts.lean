/-
  Slices of integers: what they read as, rows of the call's own; SameInts.
-/
import Derived.Test.YtnlpbfpmnjplhaaRowFrm
import Derived.Test.YtnlpbfpmnjplhaaIntRd
import Derived.LoopTactic
import Derived.BigQuiet
namespace Go.Proofs.Ytnlpbfpmnjplhaa.IntW
open Go.RowKit WideW
set_option linter.all false

/-- A row of integers of the call's own. -/
def InRow (W : World) (base : Nat) (v : Value) (l : List Int) : Prop := W.ownsRow base 3 1 v l.length (inCells l)
section
variable {w w' w'' : World} {B B' : Nat} {v v' v'' : Value} {l : List Int}
theorem InRow.nil (w : World) (base : Nat) : InRow w base (.slice none 0 0) [] := World.ownsRow_nil w base _ _
theorem InRow.kept {base : Nat} (h : InRow w base v l) (hb : Below w.heap.size w w') : InRow w' base v l :=
  World.ownsRow.kept h (CovW.grown_below hb none) (by cases v.ownBlock <;> simp)
theorem InRow.mono {base base' : Nat} (h : InRow w base v l) (hb : base' ≤ base) : InRow w base' v l := by
  refine ⟨h.1, ?_⟩
  rcases h.2 with h | ⟨g, cap, cur, e, k, r⟩
  · exact .inl h
  · exact .inr ⟨g, cap, cur, e, by omega, r⟩
theorem InRow.read {base : Nat} (h : InRow w base v l) (hl : l.length ≤ 9223372036854775807) : RdI w w.heap.size v l := by
  have hlt := World.ownsRow.lt h
  have hc := fun g => World.ownsRow.cells (g := g) h
  rcases h.2 with ⟨rfl, h0⟩ | ⟨g, cap, cur, rfl, -⟩
  · exact ⟨none, 0, by rw [h0], hl, fun h => by omega⟩
  · refine ⟨_, _, rfl, hl, fun h0 => ⟨g, 0, rfl, (hlt g rfl).2, fun i hi => ?_⟩⟩
    have c1 := hc g rfl _ _ (inCells_at hi)
    have ea : ∀ j, (⟨g, 0, none⟩ : Addr).add j = ⟨g, j, none⟩ := fun j => by unfold Addr.add; split <;> simp_all
    rw [ea] at c1
    rw [Nat.zero_add]
    exact c1
theorem InRow.slice {base : Nat} (h : InRow w base v l) : ∃ A c, v = .slice A l.length c := by
  rcases h.2 with ⟨rfl, h0⟩ | ⟨g, cap, cur, rfl, -⟩
  · exact ⟨none, 0, by rw [h0]⟩
  · exact ⟨_, _, rfl⟩
end
theorem in_info : (Try.prog.info? 3).map (fun i => (i.zero, i.size, i.bytes)) = some (some (.int .i64 0), 1, 8) := by kernel_rfl
theorem news1 (W : World) (a : Value) (t : TypeId) : ∀ j u, [a][j]? = some u → (W.alloc (Obj.cells #[a] t)).cell? ((⟨W.heap.size, 0, none⟩ : Addr).add j) = some u := by
  intro j u hj
  match j, hj with
  | 0, hj => simp at hj; subst hj; simp [Addr.add]
  | j + 1, hj => simp at hj
theorem lit_ints (w : World) (l : List Int) (cs : Array Value) (h : cs.toList = inCells l) (hl : l.length ≤ 1000) : RdI (w.alloc (.cells cs 3)) (w.alloc (.cells cs 3)).heap.size (.slice (some ⟨w.heap.size, 0, none⟩) l.length l.length) l := by
  have hs : cs.size = l.length := by rw [← Array.length_toList, h, inCells_len]
  refine InRow.read (base := 0) (l := l) ?_ (by omega)
  have := World.ownsRow_lit (base := 0) (e := 3) (size := 1) w cs l.length (Nat.zero_le _) (by unfold maxLen; omega) (by omega)
  rw [h] at this
  exact this

set_option maxRecDepth 100000 in
set_option maxHeartbeats 4000000 in
theorem sameI_any (v v' : Value) (l m : List Int) (r : Bool) (w : World) (hv : RdI w w.heap.size v l) (hv' : RdI w w.heap.size v' m) (hr : r = true ↔ l = m) :
    Calls Try.prog 25 #[v, v'] w fun e w' => e = .returned (.bool r) ∧ Below w.heap.size w w' := by
  have HR := Lib.hid hr
  clear hr
  obtain ⟨A, c, rfl, hl, h1⟩ := hv
  obtain ⟨A', c', rfl, hl', h2⟩ := hv'
  by_cases hlen : l.length = m.length
  case neg =>
    have hb : ((l.length : Int) != (m.length : Int)) = true := by simp; omega
    go_enter Try.func25, Try.ntmps25
    go_wp2_with fail
    go_ret
    refine ⟨ret_bool (bool_eq HR.out ?_), B0⟩
    simp only [Bool.false_eq_true, false_iff]
    intro e
    exact hlen (by rw [e])
  obtain ⟨n, hn⟩ : ∃ n, n = l.length := ⟨_, rfl⟩
  have hn' : n = m.length := by omega
  rw [← hn] at hl h1 ⊢
  rw [← hn'] at hl' h2 ⊢
  have HN := Lib.hid (And.intro hn hn')
  clear hlen hn hn'
  go_enter Try.func25, Try.ntmps25
  go_wp2_with fail
  go_loopw [5] (fun i W => ∃ k : Nat, k ≤ n ∧ i = .int .i64 k ∧ Hid (∀ j, j < k → it l j = it m j) ∧ Below w.heap.size w W) (fun i _ => n - (intOf i).toNat)
  case atStart => exact ⟨0, Nat.zero_le _, rfl, Lib.hid (fun j h => absurd h (by omega)), B0⟩
  case round =>
    obtain ⟨k, hk, rfl, HK, hB⟩ := hrel
    by_cases hlt : k < n
    · obtain ⟨b, off, rfl, hb, hc⟩ := h1 (by omega)
      obtain ⟨b', off', rfl, hb', hc'⟩ := h2 (by omega)
      have x0 := (hB.cell (p := ⟨b, off + k, none⟩) hb).trans (hc k hlt)
      have y0 := (hB.cell (p := ⟨b', off' + k, none⟩) hb').trans (hc' k hlt)
      obtain ⟨p, hp⟩ : ∃ p, it l k = p := ⟨_, rfl⟩
      obtain ⟨q, hq⟩ : ∃ q, it m k = q := ⟨_, rfl⟩
      rw [hp] at x0
      rw [hq] at y0
      have HP := Lib.hid (And.intro hp hq)
      clear hp hq h1 h2 hc hc'
      by_cases e0 : p = q
      case neg =>
        have d0 : (p != q) = true := by simpa using e0
        clear e0
        go_wp2_with fail
        go_quiet (fail)
        go_wp2_with fail
        go_ret
        refine ⟨ret_bool (bool_eq HR.out ?_), ⟨hB.os, hB.tape, hB.output, hB.size, hB.block⟩⟩
        simp only [Bool.false_eq_true, false_iff]
        intro e
        have hp := HP.out
        rw [e, hp.2] at hp
        rw [hp.1] at d0
        simp at d0
      have d0 : (p != q) = false := by simpa using e0
      have HE := Lib.hid e0
      clear e0
      go_wp2_with fail
      go_quiet (fail)
      go_wp2_with fail
      go_roundw
      case rel => exact ⟨k + 1, by omega, by go_num, Lib.hid (fun j h => by
        rcases Nat.lt_succ_iff_lt_or_eq.1 h with h | rfl
        · exact HK.out j h
        · rw [HP.out.1, HP.out.2]; exact HE.out), ⟨hB.os, hB.tape, hB.output, hB.size, hB.block⟩⟩
      case measure => simp [intOf]; omega
    · obtain rfl : k = n := by omega
      go_wp2_with fail
      go_ret
      refine ⟨ret_bool (bool_eq HR.out ?_), hB⟩
      simp only [true_iff]
      obtain ⟨h1, h2⟩ := HN.out
      exact ints_eq.2 ⟨by omega, fun j hj => HK.out j (by omega)⟩
end Go.Proofs.Ytnlpbfpmnjplhaa.IntW
