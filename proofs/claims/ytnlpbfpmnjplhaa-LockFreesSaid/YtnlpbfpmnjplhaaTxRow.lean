/-
  Slices of transactions: what they read as, rows of the call's own; SameTxs.
-/
import Derived.Test.YtnlpbfpmnjplhaaRowFrm
import Derived.Test.YtnlpbfpmnjplhaaBase
import Derived.Laws.AppendOwn
import Derived.Deep.AppendLies
import Derived.Deep.DeepCutAuto
import Derived.BigQuiet
import Derived.LoopTactic
namespace Go.Proofs.Ytnlpbfpmnjplhaa.LckW
open Go.RowKit WideW CovW

abbrev Txp := Int × Int
set_option linter.all false

def txc (l : List Txp) : List Value := l.flatMap (fun p => [.int .i64 p.1, .int .i64 p.2])
theorem txc_snoc (l : List Txp) (p : Txp) : txc (l ++ [p]) = txc l ++ [.int .i64 p.1, .int .i64 p.2] := by simp [txc]
theorem txc_len (l : List Txp) : (txc l).length = l.length * 2 := by
  induction l with
  | nil => rfl
  | cons p l ih =>
    have e : txc (p :: l) = .int .i64 p.1 :: .int .i64 p.2 :: txc l := rfl
    rw [e, List.length_cons, List.length_cons, ih, List.length_cons]
    omega
theorem txc_app (l m : List Txp) : txc (l ++ m) = txc l ++ txc m := by simp [txc]
theorem txc_one {l : List Txp} {u : Value} (h : u ∈ txc l) : u.oneCell' = true := by
  unfold txc at h
  obtain ⟨p, -, h⟩ := List.mem_flatMap.1 h
  simp at h
  rcases h with rfl | rfl <;> rfl
/-- The pair at a place. -/
def tp (l : List Txp) (i : Nat) : Txp := l[i]?.getD (0, 0)
theorem tp_mem {l : List Txp} {i : Nat} (h : i < l.length) : tp l i ∈ l := by
  have : tp l i = l[i] := by simp [tp, h]
  rw [this]; exact List.getElem_mem h
theorem txc_at : ∀ (l : List Txp) (j : Nat), j < l.length → (txc l)[j * 2]? = some (.int .i64 (tp l j).1) ∧ (txc l)[j * 2 + 1]? = some (.int .i64 (tp l j).2)
  | [], _, h => by simp at h
  | p :: ps, 0, _ => by simp [txc, tp]
  | p :: ps, j + 1, h => by
    have ih := txc_at ps j (by simpa using h)
    have e : txc (p :: ps) = .int .i64 p.1 :: .int .i64 p.2 :: txc ps := rfl
    have a : tp (p :: ps) (j + 1) = tp ps j := by simp [tp]
    rw [e, a, show (j + 1) * 2 = j * 2 + 1 + 1 by omega]
    simpa using ih

/-- A slice that reads as pairs, in a block below B. -/
def RdT (w : World) (B : Nat) (v : Value) (l : List Txp) : Prop :=
  ∃ A c, v = .slice A l.length c ∧ l.length ≤ 9223372036854775807 ∧ (0 < l.length → ∃ b off, A = some ⟨b, off, none⟩ ∧ b < B ∧
    ∀ i, i < l.length → w.cell? ⟨b, off + i * 2, none⟩ = some (.int .i64 (tp l i).1) ∧ w.cell? ⟨b, off + i * 2 + 1, none⟩ = some (.int .i64 (tp l i).2))
/-- A row of pairs of the call's own. -/
def TxRow (W : World) (base : Nat) (v : Value) (l : List Txp) : Prop := W.ownsRow base 30 2 v l.length (txc l)

section
variable {w w' w'' : World} {B B' : Nat} {v v' v'' : Value} {l : List Txp}
theorem RdT.keep (h : RdT w B v l) (hk : ∀ p : Addr, p.block < B → w'.cell? p = w.cell? p) : RdT w' B v l := by
  obtain ⟨A, c, e, hl, h⟩ := h
  refine ⟨A, c, e, hl, fun h0 => ?_⟩
  obtain ⟨b, off, rfl, hb, hc⟩ := h h0
  exact ⟨b, off, rfl, hb, fun i hi => ⟨(hk _ hb).trans (hc i hi).1, (hk _ hb).trans (hc i hi).2⟩⟩
theorem RdT.more (h : RdT w B v l) (hB : B ≤ B') : RdT w B' v l := by
  obtain ⟨A, c, e, hl, h⟩ := h
  refine ⟨A, c, e, hl, fun h0 => ?_⟩
  obtain ⟨b, off, rfl, hb, hc⟩ := h h0
  exact ⟨b, off, rfl, by omega, hc⟩
theorem RdT.below (h : RdT w B v l) (hb : Below B w w') : RdT w' B v l := h.keep fun _ hp => hb.cell hp
theorem RdT.on (h : RdT w w.heap.size v l) (hb : Below w.heap.size w w') : RdT w' w'.heap.size v l := (h.below hb).more hb.size
theorem RdT.nil (w : World) (B : Nat) : RdT w B (.slice none 0 0) [] := ⟨none, 0, rfl, by simp, fun h => by simp at h⟩
theorem TxRow.nil (w : World) (base : Nat) : TxRow w base (.slice none 0 0) [] := World.ownsRow_nil w base _ _
theorem TxRow.kept {base : Nat} (h : TxRow w base v l) (hb : Below w.heap.size w w') : TxRow w' base v l :=
  World.ownsRow.kept h (grown_below hb none) (by cases v.ownBlock <;> simp)
theorem TxRow.mono {base base' : Nat} (h : TxRow w base v l) (hb : base' ≤ base) : TxRow w base' v l := by
  refine ⟨h.1, ?_⟩
  rcases h.2 with h | ⟨g, cap, cur, e, k, r⟩
  · exact .inl h
  · exact .inr ⟨g, cap, cur, e, by omega, r⟩
theorem TxRow.read {base : Nat} (h : TxRow w base v l) (hl : l.length ≤ 9223372036854775807) : RdT w w.heap.size v l := by
  have hlt := World.ownsRow.lt h
  have hc := fun g => World.ownsRow.cells (g := g) h
  rcases h.2 with ⟨rfl, h0⟩ | ⟨g, cap, cur, rfl, -⟩
  · exact ⟨none, 0, by rw [h0], hl, fun h => by omega⟩
  · refine ⟨_, _, rfl, hl, fun h0 => ⟨g, 0, rfl, (hlt g rfl).2, fun i hi => ?_⟩⟩
    obtain ⟨k1, k2⟩ := txc_at l i hi
    have c1 := hc g rfl _ _ k1
    have c2 := hc g rfl _ _ k2
    have ea : ∀ j, (⟨g, 0, none⟩ : Addr).add j = ⟨g, j, none⟩ := fun j => by unfold Addr.add; split <;> simp_all
    rw [ea] at c1 c2
    rw [Nat.zero_add]
    exact ⟨c1, c2⟩
theorem TxRow.far {base b : Nat} (h : TxRow w base v l) (hb : w.heap.size ≤ b) : some b ≠ v.ownBlock := fun e => by
  have := (World.ownsRow.lt h b e.symm).2
  omega
theorem TxRow.slice {base : Nat} (h : TxRow w base v l) : ∃ A c, v = .slice A l.length c := by
  rcases h.2 with ⟨rfl, h0⟩ | ⟨g, cap, cur, rfl, -⟩
  · exact ⟨none, 0, by rw [h0]⟩
  · exact ⟨_, _, rfl⟩
end
theorem tx_info : (Try.prog.info? 30).map (fun i => (i.zero, i.size, i.bytes)) = some (some (.agg #[.int .i64 0, .int .i64 0]), 2, 16) := by kernel_rfl
theorem txl_eq {l m : List Txp} : l = m ↔ l.length = m.length ∧ ∀ j, j < l.length → tp l j = tp m j := by
  constructor
  · rintro rfl; exact ⟨rfl, fun _ _ => rfl⟩
  · rintro ⟨h, k⟩
    apply List.ext_getElem h
    intro j h1 h2
    have := k j h1
    simpa [tp, h1, h2] using this
set_option maxRecDepth 100000 in
set_option maxHeartbeats 4000000 in
theorem sameT_any (v v' : Value) (l m : List Txp) (r : Bool) (w : World) (hv : RdT w w.heap.size v l) (hv' : RdT w w.heap.size v' m) (hr : r = true ↔ l = m) :
    Calls Try.prog 16 #[v, v'] w fun e w' => e = .returned (.bool r) ∧ Below w.heap.size w w' := by
  have HR := Lib.hid hr
  clear hr
  obtain ⟨A, c, rfl, hl, h1⟩ := hv
  obtain ⟨A', c', rfl, hl', h2⟩ := hv'
  by_cases hlen : l.length = m.length
  case neg =>
    have hb : ((l.length : Int) != (m.length : Int)) = true := by simp; omega
    go_enter Try.func16, Try.ntmps16
    go_wp2_with fail
    go_ret
    refine ⟨ret_bool (bool_eq HR.out ?_), B0⟩
    simp only [Bool.false_eq_true, false_iff]
    intro e
    exact hlen (by rw [e])
  have HL := Lib.hid hlen
  obtain ⟨n, hn⟩ : ∃ n, n = l.length := ⟨_, rfl⟩
  have hn' : n = m.length := by omega
  rw [← hn] at hl h1 ⊢
  rw [← hn'] at hl' h2 ⊢
  have HN := Lib.hid (And.intro hn hn')
  clear hlen hn hn'
  go_enter Try.func16, Try.ntmps16
  go_wp2_with fail
  go_loopw [5] (fun i W => ∃ k : Nat, k ≤ n ∧ i = .int .i64 k ∧ Hid (∀ j, j < k → tp l j = tp m j) ∧ Below w.heap.size w W) (fun i _ => n - (intOf i).toNat)
  case atStart => exact ⟨0, Nat.zero_le _, rfl, Lib.hid (fun j h => absurd h (by omega)), B0⟩
  case round =>
    obtain ⟨k, hk, rfl, HK, hB⟩ := hrel
    by_cases hlt : k < n
    · obtain ⟨b, off, rfl, hb, hc⟩ := h1 (by omega)
      obtain ⟨b', off', rfl, hb', hc'⟩ := h2 (by omega)
      obtain ⟨x0, x1⟩ := hc k hlt
      obtain ⟨y0, y1⟩ := hc' k hlt
      have x0 := (hB.cell (p := ⟨b, off + k * 2, none⟩) hb).trans x0
      have x1 := (hB.cell (p := ⟨b, off + k * 2 + 1, none⟩) hb).trans x1
      have y0 := (hB.cell (p := ⟨b', off' + k * 2, none⟩) hb').trans y0
      have y1 := (hB.cell (p := ⟨b', off' + k * 2 + 1, none⟩) hb').trans y1
      obtain ⟨⟨p0, p1⟩, hp⟩ : ∃ p, tp l k = p := ⟨_, rfl⟩
      obtain ⟨⟨q0, q1⟩, hq⟩ : ∃ q, tp m k = q := ⟨_, rfl⟩
      rw [hp] at x0 x1
      rw [hq] at y0 y1
      dsimp only at x0 x1 y0 y1
      have HP := Lib.hid (And.intro hp hq)
      clear hp hq h1 h2 hc hc'
      by_cases e0 : p0 = q0
      case neg =>
        go_wp2_with fail
        go_region
        all_goals go_wp2_with fail
        all_goals go_ret
        all_goals refine ⟨ret_bool (bool_eq HR.out ?_), Bd hB⟩
        all_goals simp only [Bool.false_eq_true, false_iff]
        all_goals intro e
        all_goals have hp := HP.out
        all_goals rw [e, hp.2] at hp
        all_goals have := Prod.mk.inj hp.1
        all_goals simp_all
      subst e0
      by_cases e1 : p1 = q1
      case neg =>
        go_wp2_with fail
        go_region
        all_goals go_wp2_with fail
        all_goals go_ret
        all_goals refine ⟨ret_bool (bool_eq HR.out ?_), Bd hB⟩
        all_goals simp only [Bool.false_eq_true, false_iff]
        all_goals intro e
        all_goals have hp := HP.out
        all_goals rw [e, hp.2] at hp
        all_goals have := Prod.mk.inj hp.1
        all_goals simp_all
      subst e1
      go_wp2_with fail
      go_region
      all_goals go_wp2_with fail
      all_goals
        go_roundw
        case rel => exact ⟨k + 1, by omega, by go_num, Lib.hid (fun j h => by
          rcases Nat.lt_succ_iff_lt_or_eq.1 h with h | rfl
          · exact HK.out j h
          · rw [HP.out.1, HP.out.2]), Bd hB⟩
        case measure => simp [intOf]; omega
    · obtain rfl : k = n := by omega
      go_wp2_with fail
      go_ret
      refine ⟨ret_bool (bool_eq HR.out ?_), hB⟩
      simp only [true_iff]
      obtain ⟨h1, h2⟩ := HN.out
      exact txl_eq.2 ⟨by omega, fun j hj => HK.out j (by omega)⟩
end Go.Proofs.Ytnlpbfpmnjplhaa.LckW
