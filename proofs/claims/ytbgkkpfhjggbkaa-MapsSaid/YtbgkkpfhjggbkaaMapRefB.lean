/-
  The walks of the document's own Owner, cut; SpoilInts, SpoilMap.
-/
import Derived.Test.YtbgkkpfhjggbkaaMapRef
import Derived.Laws.AppendOwn
namespace Go.Proofs.Ytbgkkpfhjggbkaa.IntW
open Go.RowKit WideW
set_option linter.all false

theorem rat_is (e d : Int) (vs vo : Value) (ss os : List Int) (i : Nat) (w : World) (hs : RdI w w.heap.size vs ss) (hl : ss.length ≤ 1000) (h : AtIs ss d i) :
    Calls Try.prog 33 #[.agg #[.int .i64 e, vs, vo], .int .i64 d] w fun x w' => x = .returned (.int .i64 i) ∧ Below w.heap.size w w' := by
  refine (rat_any e d vs vo ss os w hs hl (by have := h.1; omega)).mono ?_
  rintro _ w' ⟨j, rfl, hj, hb⟩
  rw [at_uniq h hj]
  exact ⟨rfl, hb⟩
theorem at_ex {ss : List Int} {d : Int} (h : 0 < ss.length) : ∃ i, AtIs ss d i := by
  have key : ∀ n k, k + n + 1 = ss.length → (∀ j, 0 < j → j ≤ k → it ss j ≤ d) → ∃ i, AtIs ss d i := by
    intro n
    induction n with
    | zero => intro k hk hj; exact ⟨k, by omega, hj, fun h => by omega⟩
    | succ n ih =>
      intro k hk hj
      by_cases hd : it ss (k + 1) ≤ d
      · exact ih (k + 1) (by omega) (fun j h1 h2 => by
          rcases Nat.lt_or_ge j (k + 1) with x | x
          · exact hj j h1 (by omega)
          · obtain rfl : j = k + 1 := by omega
            exact hd)
      · exact ⟨k, by omega, hj, fun _ => by omega⟩
  exact key (ss.length - 1) 0 (by omega) (fun j h1 h2 => by omega)
/-- What Owner answers. -/
def ownerOut (e : Int) (ss os : List Int) (d : Int) (o n : Int) : Prop :=
  (∃ i, MapOk e ss os 8 ∧ (0 ≤ d ∧ d < 4294967296) ∧ AtIs ss d i ∧ o = it os i ∧ n = 0) ∨ (¬ (MapOk e ss os 8 ∧ 0 ≤ d ∧ d < 4294967296) ∧ o = 0 ∧ n = 700)
theorem ownerOut_is (e : Int) (ss os : List Int) (d : Int) : ∃ o n, ownerOut e ss os d o n := by
  by_cases h : MapOk e ss os 8 ∧ 0 ≤ d ∧ d < 4294967296
  · obtain ⟨i, hi⟩ := at_ex (ss := ss) (d := d) (by have := h.1.1; unfold HeadOk at this; omega)
    exact ⟨_, _, .inl ⟨i, h.1, h.2, hi, rfl, rfl⟩⟩
  · exact ⟨_, _, .inr ⟨h, rfl, rfl⟩⟩

set_option maxRecDepth 100000 in
set_option maxHeartbeats 4000000 in
theorem rowner_any (e d o n : Int) (vs vo : Value) (ss os : List Int) (w : World) (hs : RdI w w.heap.size vs ss) (ho : RdI w w.heap.size vo os) (h : ownerOut e ss os d o n) :
    Calls Try.prog 13 #[.agg #[.int .i64 e, vs, vo], .int .i64 d] w fun x w' => x = .returned (.tuple #[.int .i64 o, .int .i64 n]) ∧ Below w.heap.size w w' := by
  obtain ⟨r, HR⟩ := has_bool (MapOk e ss os 8)
  obtain ⟨A1, c1, rfl, -, -⟩ := id hs
  obtain ⟨A2, c2, rfl, -, h2⟩ := id ho
  have P1 := Blk.new w 24 #[.int .i64 e, .slice A1 ss.length c1, .slice A2 os.length c2]
  have B1 : Below w.heap.size w (w.alloc (.cells #[.int .i64 e, .slice A1 ss.length c1, .slice A2 os.length c2] 24)) := Ba B0
  have hs1 := hs.on B1
  have ho1 := ho.on B1
  have HO := Lib.hid h
  clear h
  go_enter Try.func13, Try.ntmps13
  go_upto_region 1 with fail
  generalize w.alloc (.cells #[.int .i64 e, .slice A1 ss.length c1, .slice A2 os.length c2] 24) = w1 at *
  have a0 := P1.cell 0
  have a1 := P1.cell 1
  have a2 := P1.cell 2
  simp at a0 a1 a2
  go_wp2_with fail
  refine (rmapMay_any e _ _ ss os 8 r _ hs1 ho1 HR.out).mono ?_
  rintro _ w2 ⟨rfl, hb⟩
  have hs2 := hs1.on hb
  have P2 := P1.keep hb
  have B2 := Bt B1 hb
  clear hb a0 a1 a2 P1 hs1 ho1 B1
  cases r
  case false =>
    have hn : o = 0 ∧ n = 700 := by
      rcases HO.out with ⟨i, hm, -⟩ | h
      · have := HR.out.2 hm
        simp at this
      · exact h.2
    obtain ⟨rfl, rfl⟩ := hn
    go_wp2_with fail
    go_ret2
    exact ⟨rfl, B2⟩
  by_cases hd : d < 0
  case pos =>
    have hn : o = 0 ∧ n = 700 := by
      rcases HO.out with ⟨i, -, hm, -⟩ | h
      · omega
      · exact h.2
    obtain ⟨rfl, rfl⟩ := hn
    go_wp2_with fail
    go_ret2
    exact ⟨rfl, B2⟩
  have d1 : decide (d < 0) = false := decide_eq_false hd
  by_cases hd2 : 4294967296 ≤ d
  case pos =>
    have hn : o = 0 ∧ n = 700 := by
      rcases HO.out with ⟨i, -, hm, -⟩ | h
      · omega
      · exact h.2
    obtain ⟨rfl, rfl⟩ := hn
    go_wp2_with fail
    go_ret2
    exact ⟨rfl, B2⟩
  have d2 : decide (4294967296 ≤ d) = false := decide_eq_false hd2
  have hm : MapOk e ss os 8 := HR.out.1 (by simp)
  obtain ⟨i, hi, rfl, rfl⟩ : ∃ i, AtIs ss d i ∧ o = it os i ∧ n = 0 := by
    rcases HO.out with ⟨i, -, -, k⟩ | h
    · exact ⟨i, k⟩
    · exact absurd ⟨hm, by omega, by omega⟩ h.1
  have hm1 := hm.1
  unfold HeadOk at hm1
  have hio : i < os.length := by have := hi.1; omega
  obtain ⟨b', off', rfl, hb', hc'⟩ := h2 (by omega)
  have y0 := (B2.cell (p := ⟨b', off' + i, none⟩) hb').trans (hc' i hio)
  have HI := Lib.hid hi
  have lss : ss.length ≤ 1000 := by omega
  have a0 := P2.cell 0
  have a1 := P2.cell 1
  have a2 := P2.cell 2
  simp at a0 a1 a2
  obtain ⟨v, hv⟩ : ∃ v, it os i = v := ⟨_, rfl⟩
  rw [hv] at y0
  have HV := Lib.hid hv
  clear hm hm1 hi hd hd2 h2 hc' hv HO HR
  go_wp2_with fail
  have N1 : ∀ W, Below w2.heap.size w2 W → Calls Try.prog 33 #[.agg #[.int .i64 e, .slice A1 ss.length c1, .slice (some ⟨b', off', none⟩) os.length c2], .int .i64 d] W fun x w' => x = .returned (.int .i64 i) ∧ Below W.heap.size W w' := fun W hB => rat_is e d _ _ ss os i W (hs2.on hB) lss HI.out
  go_region_held3 (fun w' => w'.cell? ⟨w.heap.size, 0, none⟩ = some (.int .i64 e) ∧ w'.cell? ⟨w.heap.size, 1, none⟩ = some (.slice A1 ss.length c1) ∧ w'.cell? ⟨w.heap.size, 2, none⟩ = some (.slice (some ⟨b', off', none⟩) os.length c2) ∧ w'.cell? ⟨b', off' + i, none⟩ = some (.int .i64 v))
    (first | exact ⟨a0, a1, a2, y0⟩ | exact kp4 (by assumption) (by assumption) | go_keep)
    (first
      | (go_at_call 33; (with_reducible refine Calls.mono (N1 _ (Bd B0)) ?_); rintro x wA ⟨rfl, hbA⟩))
  all_goals go_wp2_with fail
  all_goals go_ret2
  all_goals exact ⟨by rw [HV.out]; rfl, Bt (Bd B2) hbA⟩

theorem InRow.form {w : World} {base : Nat} {v : Value} {l : List Int} (h : InRow w base v l) (h0 : 0 < l.length) : ∃ b c, v = .slice (some ⟨b, 0, none⟩) l.length c := by
  obtain ⟨b, c, e, -, -⟩ := World.ownsRow.form h h0
  exact ⟨b, c, e⟩
theorem InRow.at {w : World} {base b c : Nat} {l : List Int} (h : InRow w base (.slice (some ⟨b, 0, none⟩) l.length c) l) {k : Nat} (hk : k < l.length) : w.cell? ⟨b, k, none⟩ = some (.int .i64 (it l k)) ∧ w.frozen? ⟨b, k, none⟩ = false := by
  refine ⟨?_, World.ownsRow.frozenAt h k⟩
  rw [World.ownsRow.cellAt h k (by omega), inCells_at hk]
theorem InRow.put {w : World} {base b c : Nat} {l : List Int} (h : InRow w base (.slice (some ⟨b, 0, none⟩) l.length c) l) (k : Nat) (x : Int) :
    InRow (w.setCell ⟨b, k, none⟩ (.int .i64 x)) base (.slice (some ⟨b, 0, none⟩) l.length c) (l.set k x) ∧ w.grownBy (w.setCell ⟨b, k, none⟩ (.int .i64 x)) (some b) := by
  obtain ⟨k1, k2⟩ := World.ownsRow.stored h k (.int .i64 x)
  refine ⟨?_, k2⟩
  have e : inCells (l.set k x) = (inCells l).set k (.int .i64 x) := by unfold inCells; rw [List.map_set]
  unfold InRow
  rw [e, List.length_set]
  exact k1

set_option maxHeartbeats 1000000 in
theorem spoilI_any (v : Value) (base : Nat) (l : List Int) (w : World) (h : InRow w base v l) (hl : l.length ≤ 1000) :
    Calls Try.prog 40 #[v] w fun x w' => x = .returned (.tuple #[]) ∧ w.grownBy w' v.ownBlock ∧ ∃ l', l'.length = l.length ∧ InRow w' base v l' := by
  rcases Nat.eq_zero_or_pos l.length with h0 | h0
  · have H := Lib.hid h
    obtain ⟨A, c, rfl⟩ := h.slice
    have H0 := Lib.hid h0
    rw [h0] at H ⊢
    clear h hl h0
    go_enter Try.func40, Try.ntmps40
    go_wp2_with fail
    go_loopw [2] (fun i W => i = .int .i64 0 ∧ W = w) (fun i _ => 0)
    case atStart => exact ⟨rfl, rfl⟩
    case round =>
      obtain ⟨rfl, rfl⟩ := hrel
      go_wp2_with fail
      exact bodyPost_end (v := .tuple #[]) (by simp [results, Try.results40, go_sem]) rfl ⟨rfl, World.grownBy.refl _ _, l, H0.out, H.out⟩
  · obtain ⟨b, c, rfl⟩ := h.form h0
    have HI := Lib.hid h
    obtain ⟨n, hn⟩ : ∃ n, l.length = n := ⟨_, rfl⟩
    rw [hn] at hl h0 ⊢
    have HN := Lib.hid hn
    clear h hn
    go_enter Try.func40, Try.ntmps40
    go_wp2_with fail
    go_loopw [2] (fun i W => ∃ k : Nat, k ≤ n ∧ i = .int .i64 k ∧ w.grownBy W (some b) ∧ Hid (∃ l', l'.length = n ∧ InRow W base (.slice (some ⟨b, 0, none⟩) n c) l')) (fun i _ => n - (intOf i).toNat)
    case atStart => exact ⟨0, Nat.zero_le _, rfl, World.grownBy.refl _ _, Lib.hid ⟨l, HN.out, by have := HI.out; rw [HN.out] at this; exact this⟩⟩
    case round =>
      obtain ⟨k, hk, rfl, hB, HL⟩ := hrel
      rcases Nat.lt_or_ge k n with hkn | hkn
      · obtain ⟨l', hl', hI⟩ := HL.out
        rw [← hl'] at hI
        obtain ⟨a0, f0⟩ := hI.at (k := k) (by omega)
        have HP := fun x => Lib.hid (hI.put k x)
        rw [hl'] at hI
        clear HL hI
        have HL' := Lib.hid hl'
        clear hl'
        obtain ⟨x, hx⟩ : ∃ x, it l' k = x := ⟨_, rfl⟩
        rw [hx] at a0
        clear hx
        have g1 : (k : Int) < n := by omega
        go_wp2_with fail
        obtain ⟨p1, p2⟩ := (HP (wrap64 (-9 - x))).out
        exact ⟨⟨k + 1, by omega, by simp only [Int.natCast_add, Int.cast_ofNat_Int], hB.trans p2, Lib.hid ⟨l'.set k (wrap64 (-9 - x)), by rw [List.length_set, HL'.out], by rw [HL'.out] at p1; exact p1⟩⟩, by simp [intOf]; omega⟩
      · have e : k = n := by omega
        subst e
        go_wp2_with fail
        exact bodyPost_end (v := .tuple #[]) (by simp [results, Try.results40, go_sem]) rfl ⟨rfl, hB, HL.out⟩

set_option maxHeartbeats 1000000 in
theorem spoilM_any (e : Int) (v v' : Value) (base : Nat) (l m : List Int) (w : World) (h : InRow w base v l) (h' : InRow w base v' m) (hl : l.length ≤ 1000) (hm : m.length ≤ 1000) (hne : v'.ownBlock = none ∨ v'.ownBlock ≠ v.ownBlock) (hb : base ≤ w.heap.size) :
    Calls Try.prog 21 #[.agg #[.int .i64 e, v, v']] w fun x w' => x = .returned (.tuple #[]) ∧ Below base w w' := by
  have B1 : Below w.heap.size w (w.alloc (.cells #[.int .i64 e, v, v'] 24)) := Ba B0
  have S1 := h.kept B1
  have S2 := h'.kept B1
  have P := Three.new w (.int .i64 e) v v' 24 rfl
  have hlt : ∀ g, v.ownBlock = some g → base ≤ g ∧ g < w.heap.size := fun g hg => World.ownsRow.lt h g hg
  have hlt' : ∀ g, v'.ownBlock = some g → base ≤ g ∧ g < w.heap.size := fun g hg => World.ownsRow.lt h' g hg
  go_enter Try.func21, Try.ntmps21
  go_wp2_with fail
  generalize w.alloc (.cells #[.int .i64 e, v, v'] 24) = w1 at *
  have c2 := P.2.2.2
  refine (spoilI_any v base l w1 S1 hl).mono ?_
  rintro _ wA ⟨rfl, hA, -⟩
  have c2A := World.grownBy.cell hA c2 (fun e => by have := (hlt _ e.symm).2; simp at this)
  have T2 := World.ownsRow.kept S2 hA hne
  go_wp2_with fail
  refine (spoilI_any v' base m wA T2 hm).mono ?_
  rintro _ wB ⟨rfl, hB, -⟩
  go_wp2_with fail
  have hs := hA.size
  have hs1 := B1.size
  refine bodyPost_end (v := .tuple #[]) (by simp [results, Try.results21, go_sem]) rfl ⟨rfl, ?_⟩
  exact ((B1.mono hb).grown hA (by omega) (fun g hg => (hlt g hg).1)).grown hB (by omega) (fun g hg => (hlt' g hg).1)
end Go.Proofs.Ytbgkkpfhjggbkaa.IntW
