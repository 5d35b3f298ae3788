/-
  The walk of the document's own Sides: the row of stretches that it makes.
-/
import Derived.Test.YtnlmhccmemlhaaaShapeRefD
import Derived.Test.YtnlmhccmemlhaaaShapeSquare
import Derived.Deep.AppendLies
namespace Go.Proofs.Ytnlmhccmemlhaaa.ShpW
open Go.RowKit Shp WideW
set_option linter.all false

def sdCells (l : List Sg) : List Value := l.flatMap (fun s => [.int .i64 s.1.1, .int .i64 s.1.2, .int .i64 s.2.1, .int .i64 s.2.2])
theorem sdCells_snoc (l : List Sg) (s : Sg) : sdCells (l ++ [s]) = sdCells l ++ [.int .i64 s.1.1, .int .i64 s.1.2, .int .i64 s.2.1, .int .i64 s.2.2] := by simp [sdCells]
def sd_ (l : List Sg) (i : Nat) : Sg := l[i]?.getD ((0, 0), (0, 0))
theorem sdCells_at : ∀ (l : List Sg) (j : Nat), j < l.length → (sdCells l)[j * 4]? = some (.int .i64 (sd_ l j).1.1) ∧ (sdCells l)[j * 4 + 1]? = some (.int .i64 (sd_ l j).1.2) ∧ (sdCells l)[j * 4 + 2]? = some (.int .i64 (sd_ l j).2.1) ∧ (sdCells l)[j * 4 + 3]? = some (.int .i64 (sd_ l j).2.2)
  | [], _, h => by simp at h
  | p :: ps, 0, _ => by simp [sdCells, sd_]
  | p :: ps, j + 1, h => by
    have ih := sdCells_at ps j (by simpa using h)
    have e : sdCells (p :: ps) = .int .i64 p.1.1 :: .int .i64 p.1.2 :: .int .i64 p.2.1 :: .int .i64 p.2.2 :: sdCells ps := rfl
    have a : sd_ (p :: ps) (j + 1) = sd_ ps j := by simp [sd_]
    rw [e, a, show (j + 1) * 4 = j * 4 + 1 + 1 + 1 + 1 by omega]
    simpa using ih
/-- A row of stretches of the call's own. -/
def SdRow (W : World) (base : Nat) (u : Value) (l : List Sg) : Prop := W.ownsRow base 73 4 u l.length (sdCells l)
theorem SdRow.nil (W : World) (base : Nat) : SdRow W base (.slice none 0 0) [] := World.ownsRow_nil W base _ _
theorem SdRow.kept {W W' : World} {base : Nat} {u : Value} {l : List Sg} (h : SdRow W base u l) (hb : Below W.heap.size W W') : SdRow W' base u l :=
  World.ownsRow.kept h (grown_below hb none) (by cases u.ownBlock <;> simp)
theorem SdRow.mono {W : World} {base base' : Nat} {u : Value} {l : List Sg} (h : SdRow W base u l) (hb : base' ≤ base) : SdRow W base' u l := by
  refine ⟨h.1, ?_⟩
  rcases h.2 with h | ⟨g, cap, cur, e, k, r⟩
  · exact .inl h
  · exact .inr ⟨g, cap, cur, e, by omega, r⟩
theorem SdRow.step {W w1 : World} {base : Nat} {t v' : Value} {l : List Sg} {ax ay bx by_ : Int} {o : Obj} {X : World} (hP : SdRow W base t l) (hB : Below base X W) (hs : base ≤ W.heap.size)
    (hown : w1.ownsRow base 73 4 v' (l.length + 1) (sdCells l ++ [.int .i64 ax, .int .i64 ay, .int .i64 bx, .int .i64 by_])) (hg : (W.drew.alloc o).grownBy w1 t.ownBlock) : SdRow w1 base v' (l ++ [((ax, ay), (bx, by_))]) ∧ Below base X w1 := by
  refine ⟨?_, (Below.alloc (Below.drew hB) hs o).grown hg (by simp; omega) fun k e => by have := (World.ownsRow.lt hP k e).1; omega⟩
  unfold SdRow
  rw [sdCells_snoc]
  simpa using hown
theorem row_below {W w' : World} {base s n : Nat} {t : TypeId} {v : Value} {xs : List Value} (h : W.ownsRow base t s v n xs) (hg : W.grownBy w' v.ownBlock) (hb : base ≤ W.heap.size) : Below base W w' :=
  (Below.refl base W).grown hg hb fun k e => (h.lt k e).1
theorem sd_info : (Try.prog.info? 73).map (fun i => (i.zero, i.size, i.bytes)) = some (some (.agg #[.int .i64 0, .int .i64 0, .int .i64 0, .int .i64 0]), 4, 32) := by kernel_rfl
theorem news4 (W : World) (a b c d : Value) (t : TypeId) : ∀ j u, [a, b, c, d][j]? = some u → (W.alloc (Obj.cells #[a, b, c, d] t)).cell? ((⟨W.heap.size, 0, none⟩ : Addr).add j) = some u := by
  intro j u hj
  match j, hj with
  | 0, hj => simp at hj; subst hj; simp [Addr.add]
  | 1, hj => simp at hj; subst hj; simp [Addr.add]
  | 2, hj => simp at hj; subst hj; simp [Addr.add]
  | 3, hj => simp at hj; subst hj; simp [Addr.add]
  | j + 4, hj => simp at hj
theorem flat_len {sh : Int} {rs : List (List P2)} {n : Nat} (h : ∀ r ∈ rs, r.length ≤ n) : ∀ k, ((rs.take k).flatMap (rside sh)).length ≤ k * (n + 1) := by
  induction rs with
  | nil => intro k; simp
  | cons r rs ih =>
    intro k
    cases k with
    | zero => simp
    | succ k =>
      have := ih (fun q hq => h q (List.mem_cons_of_mem _ hq)) k
      have h1 := h r List.mem_cons_self
      have h2 : (rside sh r).length ≤ r.length - 1 + 1 := by
        unfold rside
        split
        · simp
        · split <;> simp
      simp only [List.take_succ_cons, List.flatMap_cons, List.length_append]
      have : (k + 1) * (n + 1) = k * (n + 1) + (n + 1) := by rw [Nat.add_mul, Nat.one_mul]
      omega
theorem flat_ring {sh : Int} {rs : List (List P2)} {k : Nat} (h : k < rs.length) : (rs.take (k + 1)).flatMap (rside sh) = (rs.take k).flatMap (rside sh) ++ rside sh (rg rs k) := by
  rw [List.take_add_one, List.getElem?_eq_getElem h, List.flatMap_append]
  simp [rg, h]
/-- A ring's first stretches. -/
def fst_ (r : List P2) (m : Nat) : List Sg := (List.range m).map (fun j => (at_ r j, at_ r (j + 1)))
theorem fst_snoc (r : List P2) (m : Nat) : fst_ r (m + 1) = fst_ r m ++ [(at_ r m, at_ r (m + 1))] := by simp [fst_, List.range_succ]
theorem fst_len (r : List P2) (m : Nat) : (fst_ r m).length = m := by simp [fst_]

theorem row_eq0 {sh : Int} {r : List P2} {m : Nat} {pre : List Sg} (h : sh = 0) (hm : m + 1 = r.length) : pre ++ rside sh r = pre ++ fst_ r m ++ [(at_ r 0, at_ r 0)] := by
  have : r.length - 1 = m := by omega
  simp [rside, fst_, h, this]
theorem row_eq1 {sh : Int} {r : List P2} {m : Nat} {pre : List Sg} (h : sh = 1) (hm : m + 1 = r.length) : pre ++ rside sh r = pre ++ fst_ r m := by
  have : r.length - 1 = m := by omega
  simp [rside, fst_, h, this]
theorem row_eq2 {sh : Int} {r : List P2} {m : Nat} {pre : List Sg} (h : sh = 2) (hm : m + 1 = r.length) : pre ++ rside sh r = pre ++ fst_ r m ++ [(at_ r m, at_ r 0)] := by
  have : r.length - 1 = m := by omega
  simp [rside, fst_, h, this]
theorem wrapm (m : Nat) (h : m ≤ 1000) : IntKind.i64.wrap (m : Int) = m := by
  rw [IntKind.wrap_i64]
  omega
theorem wrapl (n m : Nat) (h : m + 1 = n) (k : m ≤ 1000) : IntKind.i64.wrap ((n : Int) - 1) = m := by
  rw [show (n : Int) - 1 = m by omega]
  exact wrapm m k

set_option maxRecDepth 100000 in
set_option maxHeartbeats 4000000 in
theorem rSides_any (id sh : Int) (rv : Value) (rs : List (List P2)) (w : World) (hR : RdR w w.heap.size rv rs) (hM : May id sh rs) :
    Calls Try.prog 41 #[.agg #[.int .i64 id, .int .i64 sh, rv]] w fun e w' => ∃ v, e = .returned v ∧ SdRow w' w.heap.size v (rsides sh rs) ∧ Below w.heap.size w w' := by
  obtain ⟨-, -, m1, m4, m5, m6⟩ := (may_ref id sh rs).1 hM
  have m7 := fun r hr => (ringOk_iff sh r).1 (m6 r hr)
  have hs3 : sh = 0 ∨ sh = 1 ∨ sh = 2 := (m7 _ (rg_mem (j := 0) (by omega))).1.1
  have hln : ∀ r ∈ rs, r.length ≤ 16 ∧ 1 ≤ r.length := fun r hr => by
    have := (m7 r hr).1
    rcases hs3 with rfl | rfl | rfl <;> simp [bds] at this <;> omega
  have HLN := Lib.hid hln
  clear hln m5 m6 m7 hM
  have hR' := hR
  obtain ⟨A, c, rfl, -⟩ := hR'
  have hB1 : Below w.heap.size w (w.alloc (.cells #[.int .i64 id, .int .i64 sh, .slice A rs.length c] 24)) := Ba B0
  have bF := Blk.new w 24 #[.int .i64 id, .int .i64 sh, .slice A rs.length c]
  have hR1 := hR.on hB1
  go_enter Try.func41, Try.ntmps41
  obtain ⟨w1, hw1⟩ : ∃ w1, w.alloc (.cells #[.int .i64 id, .int .i64 sh, .slice A rs.length c] 24) = w1 := ⟨_, rfl⟩
  have HW1 := Lib.hid hw1
  rw [hw1] at bF hB1 hR1
  clear hw1 hR
  go_upto_region 1 with fail
  rw [HW1.out]
  clear HW1
  have n1 : w.heap.size < w1.heap.size := bF.lt
  have f1' := bF.cell 1
  have f2' := bF.cell 2
  simp at f1' f2'
  obtain ⟨A0, c0, ee, -, hA⟩ := hR1
  cases ee
  obtain ⟨b, off, rfl, hb, hc⟩ := hA (by omega)
  have HC := Lib.hid hc
  clear hA hc
  go_wp2_with fail
  go_loopw [3, 4] (fun v i W => ∃ k : Nat, k ≤ rs.length ∧ i = .int .i64 k ∧ SdRow W w1.heap.size v ((rs.take k).flatMap (rside sh)) ∧ Below w1.heap.size w1 W) (fun _ i _ => rs.length - (intOf i).toNat)
  case atStart => exact ⟨0, Nat.zero_le _, rfl, SdRow.nil _ _, B0⟩
  case round =>
    obtain ⟨k, hk, rfl, hS, hBy⟩ := hrel
    have f1 := (hBy.cell (p := ⟨w.heap.size, 1, none⟩) n1).trans f1'
    have f2 := (hBy.cell (p := ⟨w.heap.size, 2, none⟩) n1).trans f2'
    by_cases hlt : k < rs.length
    case neg =>
      obtain rfl : k = rs.length := by omega
      rw [List.take_length] at hS
      go_wp2_with fail
      exact bodyPost_ret (v := u3) (by simp [results, Try.results41]) rfl ⟨_, rfl, hS.mono (by omega), Bt hB1 hBy⟩
    obtain ⟨u, hu', hP⟩ := HC.out k hlt
    obtain ⟨A', d, rfl, hl1, hA'⟩ := hP
    obtain ⟨r, hr⟩ : ∃ r, rg rs k = r := ⟨_, rfl⟩
    obtain ⟨hr16, hr1⟩ := HLN.out _ (rg_mem (rs := rs) (j := k) (by omega))
    rw [hr] at hu' hl1 hA' hr16 hr1
    have HR := Lib.hid hr
    clear hr
    obtain ⟨b1, o1, rfl, hb1, hc1⟩ := hA' (by omega)
    clear hA'
    have HC1 := Lib.hid hc1
    clear hc1
    have hu := (hBy.cell (p := ⟨b, off + k, none⟩) hb).trans hu'
    have HS := Lib.hid (flat_len (sh := sh) (n := 16) (fun r hr => (HLN.out r hr).1) k)
    obtain ⟨pre, hpre⟩ : ∃ pre, (rs.take k).flatMap (rside sh) = pre := ⟨_, rfl⟩
    rw [hpre] at hS HS
    have HPRE := Lib.hid hpre
    clear hpre
    have hpl : pre.length ≤ 68 := by have := HS.out; omega
    clear HS
    generalize wr = wx at *
    go_wp2_with fail
    go_loopw [3, 6] (fun v j W => ∃ m : Nat, m + 1 ≤ r.length ∧ j = .int .i64 ((m + 1 : Nat) : Int) ∧ SdRow W w1.heap.size v (pre ++ fst_ r m) ∧ Below w1.heap.size w1 W) (fun _ j _ => r.length - (intOf j).toNat)
    case atStart => exact ⟨0, by omega, rfl, by simpa [fst_] using hS, hBy⟩
    case round =>
      clear f1 f2 hu hS
      obtain ⟨m, hm, rfl, hS, hBz⟩ := hrel
      have hsz := hBz.size
      have f1 := (hBz.cell (p := ⟨w.heap.size, 1, none⟩) n1).trans f1'
      have hlen : (pre ++ fst_ r m).length = pre.length + m := by simp [fst_len]
      by_cases hmt : m + 1 < r.length
      case pos =>
        obtain ⟨px', py'⟩ := HC1.out m (by omega)
        obtain ⟨qx', qy'⟩ := HC1.out (m + 1) hmt
        obtain ⟨⟨ax, ay⟩, ea⟩ : ∃ z : P2, at_ r m = z := ⟨_, rfl⟩
        obtain ⟨⟨bx, by_⟩, eb⟩ : ∃ z : P2, at_ r (m + 1) = z := ⟨_, rfl⟩
        rw [ea] at px' py'
        rw [eb] at qx' qy'
        have EA := Lib.hid ea
        have EB := Lib.hid eb
        clear ea eb
        have px := (hBz.cell (p := ⟨b1, o1 + m * 2, none⟩) hb1).trans px'
        have py := (hBz.cell (p := ⟨b1, o1 + m * 2 + 1, none⟩) hb1).trans py'
        have qx := (hBz.cell (p := ⟨b1, o1 + (m + 1) * 2, none⟩) hb1).trans qx'
        have qy := (hBz.cell (p := ⟨b1, o1 + (m + 1) * 2 + 1, none⟩) hb1).trans qy'
        go_upto_region 9 with fail
        refine wp_region_held_drew (S := (fun w' => w'.cell? ⟨b1, o1 + m * 2, none⟩ = some (.int .i64 ax) ∧ w'.cell? ⟨b1, o1 + m * 2 + 1, none⟩ = some (.int .i64 ay) ∧ w'.cell? ⟨b1, o1 + (m + 1) * 2, none⟩ = some (.int .i64 bx) ∧ w'.cell? ⟨b1, o1 + (m + 1) * 2 + 1, none⟩ = some (.int .i64 by_))) (by kernel_rfl) ⟨px, py, qx, qy⟩ (fun hHeld => ?_)
        refine wpAnyH_take (i := 0) (v := (u3)) rfl (by kernel_rfl) (by kernel_rfl) (by kernel_rfl) (fun _ _ _ h => h) (Or.inl ⟨by rfl, fun w hSw => by (try dsimp only at hSw); go_simp <;> first | (intro h; omega) | (intro h; exact absurd h hrn) | exact wrapm _ (by omega) | exact wrapl _ _ hme (by omega)⟩) (by assumption) ?_
        try simp only [List.getElem_toArray, List.getElem_cons_zero, List.getElem_cons_succ, Act.put, List.setIfInBounds_toArray, List.set_cons_zero, List.set_cons_succ]
        refine wpAnyH_take (i := 1) (v := (.slice (some ⟨b1, o1, none⟩) r.length d)) rfl (by kernel_rfl) (by kernel_rfl) (by kernel_rfl) (fun _ _ _ h => h) (Or.inl ⟨by rfl, fun w hSw => by (try dsimp only at hSw); go_simp <;> first | (intro h; omega) | (intro h; exact absurd h hrn) | exact wrapm _ (by omega) | exact wrapl _ _ hme (by omega)⟩) (by assumption) ?_
        try simp only [List.getElem_toArray, List.getElem_cons_zero, List.getElem_cons_succ, Act.put, List.setIfInBounds_toArray, List.set_cons_zero, List.set_cons_succ]
        refine wpAnyH_take (i := 2) (v := (.int .i64 ((m + 1 : Nat) : Int))) rfl (by kernel_rfl) (by kernel_rfl) (by kernel_rfl) (fun _ _ _ h => h) (Or.inl ⟨by rfl, fun w hSw => by (try dsimp only at hSw); go_simp <;> first | (intro h; omega) | (intro h; exact absurd h hrn) | exact wrapm _ (by omega) | exact wrapl _ _ hme (by omega)⟩) (by assumption) ?_
        try simp only [List.getElem_toArray, List.getElem_cons_zero, List.getElem_cons_succ, Act.put, List.setIfInBounds_toArray, List.set_cons_zero, List.set_cons_succ]
        refine wpAnyH_take (i := 3) (v := (.int .i64 (m : Int))) rfl (by kernel_rfl) (by kernel_rfl) (by kernel_rfl) (fun _ _ _ h => h) (Or.inl ⟨by rfl, fun w hSw => by (try dsimp only at hSw); go_simp <;> first | (intro h; omega) | (intro h; exact absurd h hrn) | exact wrapm _ (by omega) | exact wrapl _ _ hme (by omega)⟩) (by assumption) ?_
        try simp only [List.getElem_toArray, List.getElem_cons_zero, List.getElem_cons_succ, Act.put, List.setIfInBounds_toArray, List.set_cons_zero, List.set_cons_succ]
        refine wpAnyH_take (i := 4) (v := (.pointer (some ⟨b1, o1 + m * 2, none⟩))) rfl (by kernel_rfl) (by kernel_rfl) (by kernel_rfl) (fun _ _ _ h => h) (Or.inl ⟨by rfl, fun w hSw => by (try dsimp only at hSw); go_simp <;> first | (intro h; omega) | (intro h; exact absurd h hrn) | exact wrapm _ (by omega) | exact wrapl _ _ hme (by omega)⟩) (by assumption) ?_
        try simp only [List.getElem_toArray, List.getElem_cons_zero, List.getElem_cons_succ, Act.put, List.setIfInBounds_toArray, List.set_cons_zero, List.set_cons_succ]
        refine wpAnyH_take (i := 5) (v := (.agg #[.int .i64 ax, .int .i64 ay])) rfl (by kernel_rfl) (by kernel_rfl) (by kernel_rfl) (fun _ _ _ h => h) (Or.inl ⟨by rfl, fun w hSw => by (try dsimp only at hSw); go_simp <;> first | (intro h; omega) | (intro h; exact absurd h hrn) | exact wrapm _ (by omega) | exact wrapl _ _ hme (by omega)⟩) (by assumption) ?_
        try simp only [List.getElem_toArray, List.getElem_cons_zero, List.getElem_cons_succ, Act.put, List.setIfInBounds_toArray, List.set_cons_zero, List.set_cons_succ]
        refine wpAnyH_take (i := 6) (v := (.slice (some ⟨b1, o1, none⟩) r.length d)) rfl (by kernel_rfl) (by kernel_rfl) (by kernel_rfl) (fun _ _ _ h => h) (Or.inl ⟨by rfl, fun w hSw => by (try dsimp only at hSw); go_simp <;> first | (intro h; omega) | (intro h; exact absurd h hrn) | exact wrapm _ (by omega) | exact wrapl _ _ hme (by omega)⟩) (by assumption) ?_
        try simp only [List.getElem_toArray, List.getElem_cons_zero, List.getElem_cons_succ, Act.put, List.setIfInBounds_toArray, List.set_cons_zero, List.set_cons_succ]
        refine wpAnyH_take (i := 7) (v := (.int .i64 ((m + 1 : Nat) : Int))) rfl (by kernel_rfl) (by kernel_rfl) (by kernel_rfl) (fun _ _ _ h => h) (Or.inl ⟨by rfl, fun w hSw => by (try dsimp only at hSw); go_simp <;> first | (intro h; omega) | (intro h; exact absurd h hrn) | exact wrapm _ (by omega) | exact wrapl _ _ hme (by omega)⟩) (by assumption) ?_
        try simp only [List.getElem_toArray, List.getElem_cons_zero, List.getElem_cons_succ, Act.put, List.setIfInBounds_toArray, List.set_cons_zero, List.set_cons_succ]
        refine wpAnyH_take (i := 8) (v := (.pointer (some ⟨b1, o1 + (m + 1) * 2, none⟩))) rfl (by kernel_rfl) (by kernel_rfl) (by kernel_rfl) (fun _ _ _ h => h) (Or.inl ⟨by rfl, fun w hSw => by (try dsimp only at hSw); go_simp <;> first | (intro h; omega) | (intro h; exact absurd h hrn) | exact wrapm _ (by omega) | exact wrapl _ _ hme (by omega)⟩) (by assumption) ?_
        try simp only [List.getElem_toArray, List.getElem_cons_zero, List.getElem_cons_succ, Act.put, List.setIfInBounds_toArray, List.set_cons_zero, List.set_cons_succ]
        refine wpAnyH_take (i := 9) (v := (.agg #[.int .i64 bx, .int .i64 by_])) rfl (by kernel_rfl) (by kernel_rfl) (by kernel_rfl) (fun _ _ _ h => h) (Or.inl ⟨by rfl, fun w hSw => by (try dsimp only at hSw); go_simp <;> first | (intro h; omega) | (intro h; exact absurd h hrn) | exact wrapm _ (by omega) | exact wrapl _ _ hme (by omega)⟩) (by assumption) ?_
        try simp only [List.getElem_toArray, List.getElem_cons_zero, List.getElem_cons_succ, Act.put, List.setIfInBounds_toArray, List.set_cons_zero, List.set_cons_succ]
        refine wpAnyH_take (i := 10) (v := (.agg #[.int .i64 ax, .int .i64 ay, .int .i64 bx, .int .i64 by_])) rfl (by kernel_rfl) (by kernel_rfl) (by kernel_rfl) (fun _ _ _ h => h) (Or.inl ⟨by rfl, fun w hSw => by (try dsimp only at hSw); go_simp <;> first | (intro h; omega) | (intro h; exact absurd h hrn) | exact wrapm _ (by omega) | exact wrapl _ _ hme (by omega)⟩) (by assumption) ?_
        try simp only [List.getElem_toArray, List.getElem_cons_zero, List.getElem_cons_succ, Act.put, List.setIfInBounds_toArray, List.set_cons_zero, List.set_cons_succ]
        refine wpAnyH_ready (rs := [11]) (by kernel_rfl) (by simp) ?_
        refine AllReadyH.cons rfl (fun K hK => ?_) AllReadyH.nil
        go_simp
        refine hK.out _ _ (kp4 (Ba B0) hHeld) (fun hHeld1 => ?_)
        clear hK K hHeld
        try simp only [List.getElem_toArray, List.getElem_cons_zero, List.getElem_cons_succ, Act.put, List.setIfInBounds_toArray, List.set_cons_zero, List.set_cons_succ]
        have hown := World.ownsRow.alloc (World.ownsRow.drew hS) (Obj.cells #[.int .i64 ax, .int .i64 ay, .int .i64 bx, .int .i64 by_] 73)
        rw [hlen] at hown
        have hnews := news4 wr.drew (.int .i64 ax) (.int .i64 ay) (.int .i64 bx) (.int .i64 by_) 73
        have hsz1 : w1.heap.size ≤ (wr.drew.alloc (Obj.cells #[.int .i64 ax, .int .i64 ay, .int .i64 bx, .int .i64 by_] 73)).heap.size := (Ba (Bd B0)).size |> Nat.le_trans hsz
        obtain ⟨i0, hi0, hz0, hz1, hz2⟩ := info_parts sd_info
        refine wpAnyH_ready (rs := [12]) (by kernel_rfl) (by simp) ?_
        refine AllReadyH.cons rfl (fun K hK => ?_) AllReadyH.nil
        refine step_append_lies _ (by rfl) (.tmp 25) (.tmp 36) _ (by rfl) w1.heap.size 73 i0 _ 4 32 Try.underlying68 hi0 hz0 hz1 hz2 rfl (by decide) _ _ _ (by rfl) hown ⟨wr.heap.size, 0, none⟩ 1 1 [.int .i64 ax, .int .i64 ay, .int .i64 bx, .int .i64 by_] (by rfl) rfl hnews (by intro u hu; simp at hu; rcases hu with rfl | rfl | rfl | rfl <;> rfl) (by decide) (by unfold maxLen; omega) (by omega) hsz1 _ rfl ?_
        intro g cap w4 hown' hgrow hg hgl
        refine hK.out _ _ (kst4 (row_below hown hgrow hsz1) hHeld1 hb1 hb1 hb1 hb1) (fun hHeld2 => ?_)
        clear hK K hHeld1 hown hnews hsz1 hi0 hz0 hz1 hz2 hg hgl i0
        try simp only [List.getElem_toArray, List.getElem_cons_zero, List.getElem_cons_succ, Act.put, List.setIfInBounds_toArray, List.set_cons_zero, List.set_cons_succ]
        refine wpAnyH_take (i := 13) (v := (.slice (some ⟨g, 0, none⟩) (pre.length + m + 1) cap)) rfl (by kernel_rfl) (by kernel_rfl) (by kernel_rfl) (fun _ _ _ h => h) (Or.inl ⟨by rfl, fun w hSw => by (try dsimp only at hSw); go_simp⟩) (by assumption) ?_
        try simp only [List.getElem_toArray, List.getElem_cons_zero, List.getElem_cons_succ, Act.put, List.setIfInBounds_toArray, List.set_cons_zero, List.set_cons_succ]
        refine wpAnyH_done (by kernel_rfl) ?_ _
        clear hHeld2
        have hst := SdRow.step hS hBz hsz (by rw [hlen]; exact hown') hgrow
        rw [List.append_assoc] at hst
        obtain ⟨hst1, hst2⟩ := hst
        clear hown' hgrow
        go_wp2_with fail
        go_roundw
        case rel => exact ⟨m + 1, by omega, by go_num, by rw [fst_snoc, EA.out, EB.out]; exact hst1, hst2⟩
        case measure => simp [intOf]; omega
      have hme : m + 1 = r.length := by omega
      have hrn : ¬ r = [] := by intro e; rw [e] at hr1; simp at hr1
      rcases hs3 with h0 | h0 | h0
      · rw [h0] at f1
        have H0 := Lib.hid h0
        clear h0
        obtain ⟨px', py'⟩ := HC1.out 0 (by omega)
        obtain ⟨⟨ax, ay⟩, ea⟩ : ∃ z : P2, at_ r 0 = z := ⟨_, rfl⟩
        rw [ea] at px' py'
        have EA := Lib.hid ea
        clear ea
        simp at px' py'
        have qx' := px'
        have qy' := py'
        have px := (hBz.cell (p := ⟨b1, o1, none⟩) hb1).trans px'
        have py := (hBz.cell (p := ⟨b1, o1 + 1, none⟩) hb1).trans py'
        have qx := (hBz.cell (p := ⟨b1, o1, none⟩) hb1).trans qx'
        have qy := (hBz.cell (p := ⟨b1, o1 + 1, none⟩) hb1).trans qy'
        go_upto_region 12 with fail
        refine wp_region_held_drew (S := (fun w' => w'.cell? ⟨b1, o1, none⟩ = some (.int .i64 ax) ∧ w'.cell? ⟨b1, o1 + 1, none⟩ = some (.int .i64 ay) ∧ w'.cell? ⟨b1, o1, none⟩ = some (.int .i64 ax) ∧ w'.cell? ⟨b1, o1 + 1, none⟩ = some (.int .i64 ay))) (by kernel_rfl) ⟨px, py, qx, qy⟩ (fun hHeld => ?_)
        refine wpAnyH_take (i := 0) (v := (u3)) rfl (by kernel_rfl) (by kernel_rfl) (by kernel_rfl) (fun _ _ _ h => h) (Or.inl ⟨by rfl, fun w hSw => by (try dsimp only at hSw); go_simp <;> first | (intro h; omega) | (intro h; exact absurd h hrn) | exact wrapm _ (by omega) | exact wrapl _ _ hme (by omega)⟩) (by assumption) ?_
        try simp only [List.getElem_toArray, List.getElem_cons_zero, List.getElem_cons_succ, Act.put, List.setIfInBounds_toArray, List.set_cons_zero, List.set_cons_succ]
        refine wpAnyH_take (i := 1) (v := (.slice (some ⟨b1, o1, none⟩) r.length d)) rfl (by kernel_rfl) (by kernel_rfl) (by kernel_rfl) (fun _ _ _ h => h) (Or.inl ⟨by rfl, fun w hSw => by (try dsimp only at hSw); go_simp <;> first | (intro h; omega) | (intro h; exact absurd h hrn) | exact wrapm _ (by omega) | exact wrapl _ _ hme (by omega)⟩) (by assumption) ?_
        try simp only [List.getElem_toArray, List.getElem_cons_zero, List.getElem_cons_succ, Act.put, List.setIfInBounds_toArray, List.set_cons_zero, List.set_cons_succ]
        refine wpAnyH_take (i := 2) (v := (.pointer (some ⟨b1, o1, none⟩))) rfl (by kernel_rfl) (by kernel_rfl) (by kernel_rfl) (fun _ _ _ h => h) (Or.inl ⟨by rfl, fun w hSw => by (try dsimp only at hSw); go_simp <;> first | (intro h; omega) | (intro h; exact absurd h hrn) | exact wrapm _ (by omega) | exact wrapl _ _ hme (by omega)⟩) (by assumption) ?_
        try simp only [List.getElem_toArray, List.getElem_cons_zero, List.getElem_cons_succ, Act.put, List.setIfInBounds_toArray, List.set_cons_zero, List.set_cons_succ]
        refine wpAnyH_take (i := 3) (v := (.agg #[.int .i64 ax, .int .i64 ay])) rfl (by kernel_rfl) (by kernel_rfl) (by kernel_rfl) (fun _ _ _ h => h) (Or.inl ⟨by rfl, fun w hSw => by (try dsimp only at hSw); go_simp <;> first | (intro h; omega) | (intro h; exact absurd h hrn) | exact wrapm _ (by omega) | exact wrapl _ _ hme (by omega)⟩) (by assumption) ?_
        try simp only [List.getElem_toArray, List.getElem_cons_zero, List.getElem_cons_succ, Act.put, List.setIfInBounds_toArray, List.set_cons_zero, List.set_cons_succ]
        refine wpAnyH_take (i := 4) (v := (.slice (some ⟨b1, o1, none⟩) r.length d)) rfl (by kernel_rfl) (by kernel_rfl) (by kernel_rfl) (fun _ _ _ h => h) (Or.inl ⟨by rfl, fun w hSw => by (try dsimp only at hSw); go_simp <;> first | (intro h; omega) | (intro h; exact absurd h hrn) | exact wrapm _ (by omega) | exact wrapl _ _ hme (by omega)⟩) (by assumption) ?_
        try simp only [List.getElem_toArray, List.getElem_cons_zero, List.getElem_cons_succ, Act.put, List.setIfInBounds_toArray, List.set_cons_zero, List.set_cons_succ]
        refine wpAnyH_take (i := 5) (v := (.pointer (some ⟨b1, o1, none⟩))) rfl (by kernel_rfl) (by kernel_rfl) (by kernel_rfl) (fun _ _ _ h => h) (Or.inl ⟨by rfl, fun w hSw => by (try dsimp only at hSw); go_simp <;> first | (intro h; omega) | (intro h; exact absurd h hrn) | exact wrapm _ (by omega) | exact wrapl _ _ hme (by omega)⟩) (by assumption) ?_
        try simp only [List.getElem_toArray, List.getElem_cons_zero, List.getElem_cons_succ, Act.put, List.setIfInBounds_toArray, List.set_cons_zero, List.set_cons_succ]
        refine wpAnyH_take (i := 6) (v := (.agg #[.int .i64 ax, .int .i64 ay])) rfl (by kernel_rfl) (by kernel_rfl) (by kernel_rfl) (fun _ _ _ h => h) (Or.inl ⟨by rfl, fun w hSw => by (try dsimp only at hSw); go_simp <;> first | (intro h; omega) | (intro h; exact absurd h hrn) | exact wrapm _ (by omega) | exact wrapl _ _ hme (by omega)⟩) (by assumption) ?_
        try simp only [List.getElem_toArray, List.getElem_cons_zero, List.getElem_cons_succ, Act.put, List.setIfInBounds_toArray, List.set_cons_zero, List.set_cons_succ]
        refine wpAnyH_take (i := 7) (v := (.agg #[.int .i64 ax, .int .i64 ay, .int .i64 ax, .int .i64 ay])) rfl (by kernel_rfl) (by kernel_rfl) (by kernel_rfl) (fun _ _ _ h => h) (Or.inl ⟨by rfl, fun w hSw => by (try dsimp only at hSw); go_simp <;> first | (intro h; omega) | (intro h; exact absurd h hrn) | exact wrapm _ (by omega) | exact wrapl _ _ hme (by omega)⟩) (by assumption) ?_
        try simp only [List.getElem_toArray, List.getElem_cons_zero, List.getElem_cons_succ, Act.put, List.setIfInBounds_toArray, List.set_cons_zero, List.set_cons_succ]
        refine wpAnyH_ready (rs := [8]) (by kernel_rfl) (by simp) ?_
        refine AllReadyH.cons rfl (fun K hK => ?_) AllReadyH.nil
        go_simp
        refine hK.out _ _ (kp4 (Ba B0) hHeld) (fun hHeld1 => ?_)
        clear hK K hHeld
        try simp only [List.getElem_toArray, List.getElem_cons_zero, List.getElem_cons_succ, Act.put, List.setIfInBounds_toArray, List.set_cons_zero, List.set_cons_succ]
        have hown := World.ownsRow.alloc (World.ownsRow.drew hS) (Obj.cells #[.int .i64 ax, .int .i64 ay, .int .i64 ax, .int .i64 ay] 73)
        rw [hlen] at hown
        have hnews := news4 wr.drew (.int .i64 ax) (.int .i64 ay) (.int .i64 ax) (.int .i64 ay) 73
        have hsz1 : w1.heap.size ≤ (wr.drew.alloc (Obj.cells #[.int .i64 ax, .int .i64 ay, .int .i64 ax, .int .i64 ay] 73)).heap.size := (Ba (Bd B0)).size |> Nat.le_trans hsz
        obtain ⟨i0, hi0, hz0, hz1, hz2⟩ := info_parts sd_info
        refine wpAnyH_ready (rs := [9]) (by kernel_rfl) (by simp) ?_
        refine AllReadyH.cons rfl (fun K hK => ?_) AllReadyH.nil
        refine step_append_lies _ (by rfl) (.tmp 42) (.tmp 50) _ (by rfl) w1.heap.size 73 i0 _ 4 32 Try.underlying68 hi0 hz0 hz1 hz2 rfl (by decide) _ _ _ (by rfl) hown ⟨wr.heap.size, 0, none⟩ 1 1 [.int .i64 ax, .int .i64 ay, .int .i64 ax, .int .i64 ay] (by rfl) rfl hnews (by intro u hu; simp at hu; rcases hu with rfl | rfl | rfl | rfl <;> rfl) (by decide) (by unfold maxLen; omega) (by omega) hsz1 _ rfl ?_
        intro g cap w4 hown' hgrow hg hgl
        refine hK.out _ _ (kst4 (row_below hown hgrow hsz1) hHeld1 hb1 hb1 hb1 hb1) (fun hHeld2 => ?_)
        clear hK K hHeld1 hown hnews hsz1 hi0 hz0 hz1 hz2 hg hgl i0
        try simp only [List.getElem_toArray, List.getElem_cons_zero, List.getElem_cons_succ, Act.put, List.setIfInBounds_toArray, List.set_cons_zero, List.set_cons_succ]
        refine wpAnyH_take (i := 10) (v := (.slice (some ⟨g, 0, none⟩) (pre.length + m + 1) cap)) rfl (by kernel_rfl) (by kernel_rfl) (by kernel_rfl) (fun _ _ _ h => h) (Or.inl ⟨by rfl, fun w hSw => by (try dsimp only at hSw); go_simp⟩) (by assumption) ?_
        try simp only [List.getElem_toArray, List.getElem_cons_zero, List.getElem_cons_succ, Act.put, List.setIfInBounds_toArray, List.set_cons_zero, List.set_cons_succ]
        refine wpAnyH_done (by kernel_rfl) ?_ _
        clear hHeld2
        have hst := SdRow.step hS hBz hsz (by rw [hlen]; exact hown') hgrow
        obtain ⟨hst1, hst2⟩ := hst
        clear hown' hgrow
        go_wp2_with fail
        go_roundw
        case rel => exact ⟨k + 1, by omega, by go_num, by rw [flat_ring hlt, HPRE.out, HR.out, row_eq0 H0.out hme, EA.out]; exact hst1, hst2⟩
        case measure => simp [intOf]; omega
      · rw [h0] at f1
        have H0 := Lib.hid h0
        clear h0
        go_wp2_with fail
        go_roundw
        case rel => exact ⟨k + 1, by omega, by go_num, by rw [flat_ring hlt, HPRE.out, HR.out, row_eq1 H0.out hme]; exact hS, hBz⟩
        case measure => simp [intOf]; omega
      · rw [h0] at f1
        have H0 := Lib.hid h0
        clear h0
        obtain ⟨px', py'⟩ := HC1.out m (by omega)
        obtain ⟨qx', qy'⟩ := HC1.out 0 (by omega)
        obtain ⟨⟨ax, ay⟩, ea⟩ : ∃ z : P2, at_ r m = z := ⟨_, rfl⟩
        obtain ⟨⟨bx, by_⟩, eb⟩ : ∃ z : P2, at_ r 0 = z := ⟨_, rfl⟩
        rw [ea] at px' py'
        rw [eb] at qx' qy'
        have EA := Lib.hid ea
        have EB := Lib.hid eb
        clear ea eb
        simp at px' py' qx' qy'
        have px := (hBz.cell (p := ⟨b1, o1 + m * 2, none⟩) hb1).trans px'
        have py := (hBz.cell (p := ⟨b1, o1 + m * 2 + 1, none⟩) hb1).trans py'
        have qx := (hBz.cell (p := ⟨b1, o1, none⟩) hb1).trans qx'
        have qy := (hBz.cell (p := ⟨b1, o1 + 1, none⟩) hb1).trans qy'
        go_upto_region 14 with fail
        refine wp_region_held_drew (S := (fun w' => w'.cell? ⟨b1, o1 + m * 2, none⟩ = some (.int .i64 ax) ∧ w'.cell? ⟨b1, o1 + m * 2 + 1, none⟩ = some (.int .i64 ay) ∧ w'.cell? ⟨b1, o1, none⟩ = some (.int .i64 bx) ∧ w'.cell? ⟨b1, o1 + 1, none⟩ = some (.int .i64 by_))) (by kernel_rfl) ⟨px, py, qx, qy⟩ (fun hHeld => ?_)
        refine wpAnyH_take (i := 0) (v := (u3)) rfl (by kernel_rfl) (by kernel_rfl) (by kernel_rfl) (fun _ _ _ h => h) (Or.inl ⟨by rfl, fun w hSw => by (try dsimp only at hSw); go_simp <;> first | (intro h; omega) | (intro h; exact absurd h hrn) | exact wrapm _ (by omega) | exact wrapl _ _ hme (by omega)⟩) (by assumption) ?_
        try simp only [List.getElem_toArray, List.getElem_cons_zero, List.getElem_cons_succ, Act.put, List.setIfInBounds_toArray, List.set_cons_zero, List.set_cons_succ]
        refine wpAnyH_take (i := 1) (v := (.slice (some ⟨b1, o1, none⟩) r.length d)) rfl (by kernel_rfl) (by kernel_rfl) (by kernel_rfl) (fun _ _ _ h => h) (Or.inl ⟨by rfl, fun w hSw => by (try dsimp only at hSw); go_simp <;> first | (intro h; omega) | (intro h; exact absurd h hrn) | exact wrapm _ (by omega) | exact wrapl _ _ hme (by omega)⟩) (by assumption) ?_
        try simp only [List.getElem_toArray, List.getElem_cons_zero, List.getElem_cons_succ, Act.put, List.setIfInBounds_toArray, List.set_cons_zero, List.set_cons_succ]
        refine wpAnyH_take (i := 2) (v := (.slice (some ⟨b1, o1, none⟩) r.length d)) rfl (by kernel_rfl) (by kernel_rfl) (by kernel_rfl) (fun _ _ _ h => h) (Or.inl ⟨by rfl, fun w hSw => by (try dsimp only at hSw); go_simp <;> first | (intro h; omega) | (intro h; exact absurd h hrn) | exact wrapm _ (by omega) | exact wrapl _ _ hme (by omega)⟩) (by assumption) ?_
        try simp only [List.getElem_toArray, List.getElem_cons_zero, List.getElem_cons_succ, Act.put, List.setIfInBounds_toArray, List.set_cons_zero, List.set_cons_succ]
        refine wpAnyH_take (i := 3) (v := (.int .i64 (r.length : Int))) rfl (by kernel_rfl) (by kernel_rfl) (by kernel_rfl) (fun _ _ _ h => h) (Or.inl ⟨by rfl, fun w hSw => by (try dsimp only at hSw); go_simp <;> first | (intro h; omega) | (intro h; exact absurd h hrn) | exact wrapm _ (by omega) | exact wrapl _ _ hme (by omega)⟩) (by assumption) ?_
        try simp only [List.getElem_toArray, List.getElem_cons_zero, List.getElem_cons_succ, Act.put, List.setIfInBounds_toArray, List.set_cons_zero, List.set_cons_succ]
        refine wpAnyH_take (i := 4) (v := (.int .i64 (m : Int))) rfl (by kernel_rfl) (by kernel_rfl) (by kernel_rfl) (fun _ _ _ h => h) (Or.inl ⟨by rfl, fun w hSw => by (try dsimp only at hSw); go_simp <;> first | (intro h; omega) | (intro h; exact absurd h hrn) | exact wrapm _ (by omega) | exact wrapl _ _ hme (by omega)⟩) (by assumption) ?_
        try simp only [List.getElem_toArray, List.getElem_cons_zero, List.getElem_cons_succ, Act.put, List.setIfInBounds_toArray, List.set_cons_zero, List.set_cons_succ]
        refine wpAnyH_take (i := 5) (v := (.pointer (some ⟨b1, o1 + m * 2, none⟩))) rfl (by kernel_rfl) (by kernel_rfl) (by kernel_rfl) (fun _ _ _ h => h) (Or.inl ⟨by rfl, fun w hSw => by (try dsimp only at hSw); go_simp <;> first | (intro h; omega) | (intro h; exact absurd h hrn) | exact wrapm _ (by omega) | exact wrapl _ _ hme (by omega)⟩) (by assumption) ?_
        try simp only [List.getElem_toArray, List.getElem_cons_zero, List.getElem_cons_succ, Act.put, List.setIfInBounds_toArray, List.set_cons_zero, List.set_cons_succ]
        refine wpAnyH_take (i := 6) (v := (.agg #[.int .i64 ax, .int .i64 ay])) rfl (by kernel_rfl) (by kernel_rfl) (by kernel_rfl) (fun _ _ _ h => h) (Or.inl ⟨by rfl, fun w hSw => by (try dsimp only at hSw); go_simp <;> first | (intro h; omega) | (intro h; exact absurd h hrn) | exact wrapm _ (by omega) | exact wrapl _ _ hme (by omega)⟩) (by assumption) ?_
        try simp only [List.getElem_toArray, List.getElem_cons_zero, List.getElem_cons_succ, Act.put, List.setIfInBounds_toArray, List.set_cons_zero, List.set_cons_succ]
        refine wpAnyH_take (i := 7) (v := (.slice (some ⟨b1, o1, none⟩) r.length d)) rfl (by kernel_rfl) (by kernel_rfl) (by kernel_rfl) (fun _ _ _ h => h) (Or.inl ⟨by rfl, fun w hSw => by (try dsimp only at hSw); go_simp <;> first | (intro h; omega) | (intro h; exact absurd h hrn) | exact wrapm _ (by omega) | exact wrapl _ _ hme (by omega)⟩) (by assumption) ?_
        try simp only [List.getElem_toArray, List.getElem_cons_zero, List.getElem_cons_succ, Act.put, List.setIfInBounds_toArray, List.set_cons_zero, List.set_cons_succ]
        refine wpAnyH_take (i := 8) (v := (.pointer (some ⟨b1, o1, none⟩))) rfl (by kernel_rfl) (by kernel_rfl) (by kernel_rfl) (fun _ _ _ h => h) (Or.inl ⟨by rfl, fun w hSw => by (try dsimp only at hSw); go_simp <;> first | (intro h; omega) | (intro h; exact absurd h hrn) | exact wrapm _ (by omega) | exact wrapl _ _ hme (by omega)⟩) (by assumption) ?_
        try simp only [List.getElem_toArray, List.getElem_cons_zero, List.getElem_cons_succ, Act.put, List.setIfInBounds_toArray, List.set_cons_zero, List.set_cons_succ]
        refine wpAnyH_take (i := 9) (v := (.agg #[.int .i64 bx, .int .i64 by_])) rfl (by kernel_rfl) (by kernel_rfl) (by kernel_rfl) (fun _ _ _ h => h) (Or.inl ⟨by rfl, fun w hSw => by (try dsimp only at hSw); go_simp <;> first | (intro h; omega) | (intro h; exact absurd h hrn) | exact wrapm _ (by omega) | exact wrapl _ _ hme (by omega)⟩) (by assumption) ?_
        try simp only [List.getElem_toArray, List.getElem_cons_zero, List.getElem_cons_succ, Act.put, List.setIfInBounds_toArray, List.set_cons_zero, List.set_cons_succ]
        refine wpAnyH_take (i := 10) (v := (.agg #[.int .i64 ax, .int .i64 ay, .int .i64 bx, .int .i64 by_])) rfl (by kernel_rfl) (by kernel_rfl) (by kernel_rfl) (fun _ _ _ h => h) (Or.inl ⟨by rfl, fun w hSw => by (try dsimp only at hSw); go_simp <;> first | (intro h; omega) | (intro h; exact absurd h hrn) | exact wrapm _ (by omega) | exact wrapl _ _ hme (by omega)⟩) (by assumption) ?_
        try simp only [List.getElem_toArray, List.getElem_cons_zero, List.getElem_cons_succ, Act.put, List.setIfInBounds_toArray, List.set_cons_zero, List.set_cons_succ]
        refine wpAnyH_ready (rs := [11]) (by kernel_rfl) (by simp) ?_
        refine AllReadyH.cons rfl (fun K hK => ?_) AllReadyH.nil
        go_simp
        refine hK.out _ _ (kp4 (Ba B0) hHeld) (fun hHeld1 => ?_)
        clear hK K hHeld
        try simp only [List.getElem_toArray, List.getElem_cons_zero, List.getElem_cons_succ, Act.put, List.setIfInBounds_toArray, List.set_cons_zero, List.set_cons_succ]
        have hown := World.ownsRow.alloc (World.ownsRow.drew hS) (Obj.cells #[.int .i64 ax, .int .i64 ay, .int .i64 bx, .int .i64 by_] 73)
        rw [hlen] at hown
        have hnews := news4 wr.drew (.int .i64 ax) (.int .i64 ay) (.int .i64 bx) (.int .i64 by_) 73
        have hsz1 : w1.heap.size ≤ (wr.drew.alloc (Obj.cells #[.int .i64 ax, .int .i64 ay, .int .i64 bx, .int .i64 by_] 73)).heap.size := (Ba (Bd B0)).size |> Nat.le_trans hsz
        obtain ⟨i0, hi0, hz0, hz1, hz2⟩ := info_parts sd_info
        refine wpAnyH_ready (rs := [12]) (by kernel_rfl) (by simp) ?_
        refine AllReadyH.cons rfl (fun K hK => ?_) AllReadyH.nil
        refine step_append_lies _ (by rfl) (.tmp 54) (.tmp 65) _ (by rfl) w1.heap.size 73 i0 _ 4 32 Try.underlying68 hi0 hz0 hz1 hz2 rfl (by decide) _ _ _ (by rfl) hown ⟨wr.heap.size, 0, none⟩ 1 1 [.int .i64 ax, .int .i64 ay, .int .i64 bx, .int .i64 by_] (by rfl) rfl hnews (by intro u hu; simp at hu; rcases hu with rfl | rfl | rfl | rfl <;> rfl) (by decide) (by unfold maxLen; omega) (by omega) hsz1 _ rfl ?_
        intro g cap w4 hown' hgrow hg hgl
        refine hK.out _ _ (kst4 (row_below hown hgrow hsz1) hHeld1 hb1 hb1 hb1 hb1) (fun hHeld2 => ?_)
        clear hK K hHeld1 hown hnews hsz1 hi0 hz0 hz1 hz2 hg hgl i0
        try simp only [List.getElem_toArray, List.getElem_cons_zero, List.getElem_cons_succ, Act.put, List.setIfInBounds_toArray, List.set_cons_zero, List.set_cons_succ]
        refine wpAnyH_take (i := 13) (v := (.slice (some ⟨g, 0, none⟩) (pre.length + m + 1) cap)) rfl (by kernel_rfl) (by kernel_rfl) (by kernel_rfl) (fun _ _ _ h => h) (Or.inl ⟨by rfl, fun w hSw => by (try dsimp only at hSw); go_simp⟩) (by assumption) ?_
        try simp only [List.getElem_toArray, List.getElem_cons_zero, List.getElem_cons_succ, Act.put, List.setIfInBounds_toArray, List.set_cons_zero, List.set_cons_succ]
        refine wpAnyH_done (by kernel_rfl) ?_ _
        clear hHeld2
        have hst := SdRow.step hS hBz hsz (by rw [hlen]; exact hown') hgrow
        obtain ⟨hst1, hst2⟩ := hst
        clear hown' hgrow
        go_wp2_with fail
        go_roundw
        case rel => exact ⟨k + 1, by omega, by go_num, by rw [flat_ring hlt, HPRE.out, HR.out, row_eq2 H0.out hme, EA.out, EB.out]; exact hst1, hst2⟩
        case measure => simp [intOf]; omega
end Go.Proofs.Ytnlmhccmemlhaaa.ShpW
