/-
  The walk of layer 7's 'awake' (written by tools/gen/mapawake.py).
-/
import Derived.Test.YtbgkkpfhjggbkaaMapSmall
namespace Go.Proofs.Ytbgkkpfhjggbkaa.IntW
open Go.RowKit WideW CovW Cov
set_option linter.all false

def aS0 : List Int := [0, 2147483648]
def aO0 : List Int := [0, 1]
def aS1 : List Int := [0, 9, 2147483648]
def aO1 : List Int := [0, 0, 1]
def aO2 : List Int := [0, 1, 1]
def aS3 : List Int := [0, 9]
def aZ0 : List Int := [0]
theorem aw_ok2 : MapOk 1 aS0 aO0 2 := mapOk_of (by decide +kernel) (by decide +kernel)
theorem aw_ok8 : MapOk 1 aS0 aO0 8 := mapOk_of (by decide +kernel) (by decide +kernel)
theorem aw_not1 : ¬ MapOk 1 aS0 aO0 1 := fun h => by
  have h1 := (h.2 1 (by decide)).2.2.1
  have e : it aO0 1 = 1 := rfl
  rw [e] at h1
  omega
theorem aw_at : AtIs aS0 2147483648 1 := at_of (by decide) (by decide +kernel) (fun h => absurd h (by decide))
theorem aw_at5 : AtIs aS0 5 0 := at_of (by decide) (by decide +kernel) (fun _ => by decide +kernel)
theorem aw_at9 : AtIs aS0 9 0 := at_of (by decide) (by decide +kernel) (fun _ => by decide +kernel)
theorem aw_at0 : AtIs aS0 0 0 := at_of (by decide) (by decide +kernel) (fun _ => by decide +kernel)
theorem aw_fine1 : ChgFine 1 aS0 aO0 2 0 9 0 0 := ⟨⟨aw_ok2, by omega, by omega⟩, by omega, aw_at9, .inl ⟨rfl, by decide +kernel, by decide⟩⟩
theorem aw_fine2 : ChgFine 2 aS1 aO1 2 1 10 1 1 := ⟨⟨mapOk_of (by decide +kernel) (by decide +kernel), by omega, by omega⟩, by omega, at_of (by decide) (by decide +kernel) (fun _ => by decide +kernel), .inr (.inl ⟨rfl, by omega, by omega⟩)⟩
theorem aw_fine3 : ChgFine 3 aS1 aO2 2 2 9 0 1 := ⟨⟨mapOk_of (by decide +kernel) (by decide +kernel), by omega, by omega⟩, by omega, at_of (by decide) (by decide +kernel) (fun _ => by decide +kernel), .inr (.inr ⟨rfl, by decide⟩)⟩
theorem aw_bad4 : ChgBad 1 aS0 aO0 2 1 0 2 700 := .inr (.inr ⟨⟨aw_ok2, by omega, by omega⟩, by omega, rfl, 0, aw_at0, fun h => by
  rcases h with ⟨h, -⟩ | ⟨-, -, h⟩ | ⟨h, -⟩ <;> omega⟩)
theorem aw_own : ownList aS0 aO0 [(5, 6)] 8 = aZ0 := own_place (d := 5) (i := 0) (o := 0) aw_at5 rfl (by omega)
theorem aw_may : May [((5 : Int), (6 : Int))] := ⟨by decide, by decide, by decide, trivial⟩
theorem lit1 (w : World) (f t : Int) : RdG (w.alloc (.cells #[.int .i64 f, .int .i64 t] 63)) (w.alloc (.cells #[.int .i64 f, .int .i64 t] 63)).heap.size (.slice (some ⟨w.heap.size, 0, none⟩) 1 1) [(f, t)] :=
  RgRow.read (base := 0) (l := [(f, t)]) (World.ownsRow_lit w #[.int .i64 f, .int .i64 t] 1 (Nat.zero_le _) (by decide) rfl) (by simp)

section
variable (w : World)
theorem aw_first : Calls Try.prog 10 #[.int .i64 2] w fun e w' => ∃ A1 c1 A2 c2, e = .returned (.tuple #[.agg #[.int .i64 1, .slice A1 aS0.length c1, .slice A2 aO0.length c2], .int .i64 0]) ∧ RdI w' w'.heap.size (.slice A1 aS0.length c1) aS0 ∧ RdI w' w'.heap.size (.slice A2 aO0.length c2) aO0 ∧ Below w.heap.size w w' := by
  refine Calls.mono (first_any 2 w (by omega) (by omega)) ?_
  rintro _ w' ⟨v, v', rfl, r1, r2, hb⟩
  have e1 : shares 2 2 = aS0 := by decide +kernel
  have e2 : firsts 2 = aO0 := by decide +kernel
  have e3 : shares ((2 : Nat) : Int) 2 = aS0 := e1
  rw [e3] at r1
  rw [e2] at r2
  have r1 := r1.rd (by decide)
  have r2 := r2.rd (by decide)
  obtain ⟨A1, c1, rfl⟩ := r1.form
  obtain ⟨A2, c2, rfl⟩ := r2.form
  exact ⟨A1, c1, A2, c2, rfl, r1, r2, hb⟩
theorem aw_none : Calls Try.prog 10 #[.int .i64 0] w fun e w' => e = .returned (.tuple #[.agg #[.int .i64 0, .slice none 0 0, .slice none 0 0], .int .i64 700]) ∧ Below w.heap.size w w' := firstBad_any 0 w (.inl (by omega))
theorem aw_owner (v1 v2 : Value) (h1 : RdI w w.heap.size v1 aS0) (h2 : RdI w w.heap.size v2 aO0) : Calls Try.prog 12 #[.agg #[.int .i64 1, v1, v2], .int .i64 2147483648] w fun x w' => x = .returned (.tuple #[.int .i64 1, .int .i64 0]) ∧ Below w.heap.size w w' :=
  owner_any 1 2147483648 1 0 v1 v2 aS0 aO0 w h1 h2 (.inl ⟨1, aw_ok8, by omega, aw_at, rfl, rfl⟩)
theorem aw_owners (v1 v2 : Value) (h1 : RdI w w.heap.size v1 aS0) (h2 : RdI w w.heap.size v2 aO0) : Calls Try.prog 14 #[.agg #[.int .i64 1, v1, v2], .slice (some ⟨w.heap.size, 0, none⟩) 1 1] (w.alloc (.cells #[.int .i64 5, .int .i64 6] 63)) fun x w' => ∃ A c, x = .returned (.tuple #[.slice A aZ0.length c, .int .i64 0]) ∧ RdI w' w'.heap.size (.slice A aZ0.length c) aZ0 ∧ Below w.heap.size w w' := by
  refine Calls.mono (owners_any 1 v1 v2 _ aS0 aO0 [(5, 6)] _ (h1.on (Ba B0)) (h2.on (Ba B0)) (lit1 w 5 6) aw_ok8 aw_may) ?_
  rintro _ w' ⟨v, rfl, r, hb⟩
  rw [aw_own] at r
  have r := r.rd (by decide)
  obtain ⟨A, c, rfl⟩ := r.form
  exact ⟨A, c, rfl, r, Bt (Ba B0) hb⟩
theorem aw_chg1 (v1 v2 : Value) (h1 : RdI w w.heap.size v1 aS0) (h2 : RdI w w.heap.size v2 aO0) : Calls Try.prog 16 #[.agg #[.int .i64 1, v1, v2], .int .i64 2, .agg #[.int .i64 0, .int .i64 9, .int .i64 0]] w fun x w' => ∃ A1 c1 A2 c2, x = .returned (.tuple #[.agg #[.int .i64 2, .slice A1 aS1.length c1, .slice A2 aO1.length c2], .int .i64 0]) ∧ RdI w' w'.heap.size (.slice A1 aS1.length c1) aS1 ∧ RdI w' w'.heap.size (.slice A2 aO1.length c2) aO1 ∧ Below w.heap.size w w' := by
  refine Calls.mono (change_any 1 v1 v2 aS0 aO0 2 0 9 0 0 w h1 h2 aw_fine1) ?_
  rintro _ w' ⟨u1, u2, rfl, r1, r2, -, hb⟩
  have e1 : newS 0 0 9 aS0 = aS1 := by decide +kernel
  have e2 : newO 0 0 0 aO0 = aO1 := by decide +kernel
  rw [e1] at r1
  rw [e2] at r2
  have r1 := r1.rd (by decide)
  have r2 := r2.rd (by decide)
  obtain ⟨A1, c1, rfl⟩ := r1.form
  obtain ⟨A2, c2, rfl⟩ := r2.form
  exact ⟨A1, c1, A2, c2, rfl, r1, r2, hb⟩
theorem aw_chg2 (v1 v2 : Value) (h1 : RdI w w.heap.size v1 aS1) (h2 : RdI w w.heap.size v2 aO1) : Calls Try.prog 16 #[.agg #[.int .i64 2, v1, v2], .int .i64 2, .agg #[.int .i64 1, .int .i64 10, .int .i64 1]] w fun x w' => ∃ A1 c1 A2 c2, x = .returned (.tuple #[.agg #[.int .i64 3, .slice A1 aS1.length c1, .slice A2 aO2.length c2], .int .i64 0]) ∧ RdI w' w'.heap.size (.slice A1 aS1.length c1) aS1 ∧ RdI w' w'.heap.size (.slice A2 aO2.length c2) aO2 ∧ Below w.heap.size w w' := by
  refine Calls.mono (change_any 2 v1 v2 aS1 aO1 2 1 10 1 1 w h1 h2 aw_fine2) ?_
  rintro _ w' ⟨u1, u2, rfl, r1, r2, -, hb⟩
  have e1 : newS 1 1 10 aS1 = aS1 := by decide +kernel
  have e2 : newO 1 1 1 aO1 = aO2 := by decide +kernel
  rw [e1] at r1
  rw [e2] at r2
  have r1 := r1.rd (by decide)
  have r2 := r2.rd (by decide)
  obtain ⟨A1, c1, rfl⟩ := r1.form
  obtain ⟨A2, c2, rfl⟩ := r2.form
  exact ⟨A1, c1, A2, c2, rfl, r1, r2, hb⟩
theorem aw_chg3 (v1 v2 : Value) (h1 : RdI w w.heap.size v1 aS1) (h2 : RdI w w.heap.size v2 aO2) : Calls Try.prog 16 #[.agg #[.int .i64 3, v1, v2], .int .i64 2, .agg #[.int .i64 2, .int .i64 9, .int .i64 0]] w fun x w' => ∃ A1 c1 A2 c2, x = .returned (.tuple #[.agg #[.int .i64 4, .slice A1 aS3.length c1, .slice A2 aO0.length c2], .int .i64 0]) ∧ RdI w' w'.heap.size (.slice A1 aS3.length c1) aS3 ∧ RdI w' w'.heap.size (.slice A2 aO0.length c2) aO0 ∧ Below w.heap.size w w' := by
  refine Calls.mono (change_any 3 v1 v2 aS1 aO2 2 2 9 0 1 w h1 h2 aw_fine3) ?_
  rintro _ w' ⟨u1, u2, rfl, r1, r2, -, hb⟩
  have e1 : newS 2 1 9 aS1 = aS3 := by decide +kernel
  have e2 : newO 2 1 0 aO2 = aO0 := by decide +kernel
  rw [e1] at r1
  rw [e2] at r2
  have r1 := r1.rd (by decide)
  have r2 := r2.rd (by decide)
  obtain ⟨A1, c1, rfl⟩ := r1.form
  obtain ⟨A2, c2, rfl⟩ := r2.form
  exact ⟨A1, c1, A2, c2, rfl, r1, r2, hb⟩
theorem aw_chg4 (v1 v2 : Value) (h1 : RdI w w.heap.size v1 aS0) (h2 : RdI w w.heap.size v2 aO0) : Calls Try.prog 16 #[.agg #[.int .i64 1, v1, v2], .int .i64 2, .agg #[.int .i64 1, .int .i64 0, .int .i64 2]] w fun x w' => x = .returned (.tuple #[.agg #[.int .i64 0, .slice none 0 0, .slice none 0 0], .int .i64 700]) ∧ Below w.heap.size w w' := changeBad_any 1 v1 v2 aS0 aO0 2 1 0 2 700 w h1 h2 aw_bad4
theorem aw_may2 (v1 v2 : Value) (h1 : RdI w w.heap.size v1 aS0) (h2 : RdI w w.heap.size v2 aO0) : Calls Try.prog 22 #[.agg #[.int .i64 1, v1, v2], .int .i64 2] w fun x w' => x = .returned (.bool true) ∧ Below w.heap.size w w' := pmay_any 1 v1 v2 aS0 aO0 2 true w h1 h2 (by simp [aw_ok2])
theorem aw_may1 (v1 v2 : Value) (h1 : RdI w w.heap.size v1 aS0) (h2 : RdI w w.heap.size v2 aO0) : Calls Try.prog 22 #[.agg #[.int .i64 1, v1, v2], .int .i64 1] w fun x w' => x = .returned (.bool false) ∧ Below w.heap.size w w' := pmay_any 1 v1 v2 aS0 aO0 1 false w h1 h2 (by simp [aw_not1])
theorem aw_same1 (v1 v2 : Value) (g : Nat) (hg : w.heap.size = g) (h1 : RdI w w.heap.size v1 aS0) (h2 : RdI w w.heap.size v2 aO0) : Calls Try.prog 18 #[.agg #[.int .i64 1, v1, v2], .agg #[.int .i64 1, .slice (some ⟨g, 0, none⟩) 2 2, .slice (some ⟨g + 1, 0, none⟩) 2 2]] ((w.alloc (.cells #[.int .i64 0, .int .i64 2147483648] 3)).alloc (.cells #[.int .i64 0, .int .i64 1] 3)) fun x w' => x = .returned (.bool true) ∧ Below w.heap.size w w' := by
  subst hg
  have l1 := (lit_ints w aS0 #[.int .i64 0, .int .i64 2147483648] rfl (by decide)).on (Ba (o := .cells #[.int .i64 0, .int .i64 1] 3) B0)
  have l2 := lit_ints (w.alloc (.cells #[.int .i64 0, .int .i64 2147483648] 3)) aO0 #[.int .i64 0, .int .i64 1] rfl (by decide)
  rw [show (w.alloc (.cells #[.int .i64 0, .int .i64 2147483648] 3)).heap.size = w.heap.size + 1 by simp] at l2
  refine (sameM_any 1 1 v1 v2 _ _ aS0 aO0 aS0 aO0 true ((w.alloc (.cells #[.int .i64 0, .int .i64 2147483648] 3)).alloc (.cells #[.int .i64 0, .int .i64 1] 3)) (h1.on (Ba (Ba B0))) (h2.on (Ba (Ba B0))) (by simpa [show aS0.length = 2 from rfl] using l1) (by simpa [show aO0.length = 2 from rfl] using l2) (by simp)).mono ?_
  rintro _ w' ⟨rfl, hb⟩
  exact ⟨rfl, Bt (Ba (Ba B0)) hb⟩
theorem aw_same2 (v1 v2 : Value) (g : Nat) (hg : w.heap.size = g) (h1 : RdI w w.heap.size v1 aS1) (h2 : RdI w w.heap.size v2 aO1) : Calls Try.prog 18 #[.agg #[.int .i64 2, v1, v2], .agg #[.int .i64 2, .slice (some ⟨g, 0, none⟩) 3 3, .slice (some ⟨g + 1, 0, none⟩) 3 3]] ((w.alloc (.cells #[.int .i64 0, .int .i64 9, .int .i64 2147483648] 3)).alloc (.cells #[.int .i64 0, .int .i64 0, .int .i64 1] 3)) fun x w' => x = .returned (.bool true) ∧ Below w.heap.size w w' := by
  subst hg
  have l1 := (lit_ints w aS1 #[.int .i64 0, .int .i64 9, .int .i64 2147483648] rfl (by decide)).on (Ba (o := .cells #[.int .i64 0, .int .i64 0, .int .i64 1] 3) B0)
  have l2 := lit_ints (w.alloc (.cells #[.int .i64 0, .int .i64 9, .int .i64 2147483648] 3)) aO1 #[.int .i64 0, .int .i64 0, .int .i64 1] rfl (by decide)
  rw [show (w.alloc (.cells #[.int .i64 0, .int .i64 9, .int .i64 2147483648] 3)).heap.size = w.heap.size + 1 by simp] at l2
  refine (sameM_any 2 2 v1 v2 _ _ aS1 aO1 aS1 aO1 true ((w.alloc (.cells #[.int .i64 0, .int .i64 9, .int .i64 2147483648] 3)).alloc (.cells #[.int .i64 0, .int .i64 0, .int .i64 1] 3)) (h1.on (Ba (Ba B0))) (h2.on (Ba (Ba B0))) (by simpa [show aS1.length = 3 from rfl] using l1) (by simpa [show aO1.length = 3 from rfl] using l2) (by simp)).mono ?_
  rintro _ w' ⟨rfl, hb⟩
  exact ⟨rfl, Bt (Ba (Ba B0)) hb⟩
theorem aw_same3 (v1 v2 : Value) (g : Nat) (hg : w.heap.size = g) (h1 : RdI w w.heap.size v1 aS3) (h2 : RdI w w.heap.size v2 aO0) : Calls Try.prog 18 #[.agg #[.int .i64 4, v1, v2], .agg #[.int .i64 4, .slice (some ⟨g, 0, none⟩) 2 2, .slice (some ⟨g + 1, 0, none⟩) 2 2]] ((w.alloc (.cells #[.int .i64 0, .int .i64 9] 3)).alloc (.cells #[.int .i64 0, .int .i64 1] 3)) fun x w' => x = .returned (.bool true) ∧ Below w.heap.size w w' := by
  subst hg
  have l1 := (lit_ints w aS3 #[.int .i64 0, .int .i64 9] rfl (by decide)).on (Ba (o := .cells #[.int .i64 0, .int .i64 1] 3) B0)
  have l2 := lit_ints (w.alloc (.cells #[.int .i64 0, .int .i64 9] 3)) aO0 #[.int .i64 0, .int .i64 1] rfl (by decide)
  rw [show (w.alloc (.cells #[.int .i64 0, .int .i64 9] 3)).heap.size = w.heap.size + 1 by simp] at l2
  refine (sameM_any 4 4 v1 v2 _ _ aS3 aO0 aS3 aO0 true ((w.alloc (.cells #[.int .i64 0, .int .i64 9] 3)).alloc (.cells #[.int .i64 0, .int .i64 1] 3)) (h1.on (Ba (Ba B0))) (h2.on (Ba (Ba B0))) (by simpa [show aS3.length = 2 from rfl] using l1) (by simpa [show aO0.length = 2 from rfl] using l2) (by simp)).mono ?_
  rintro _ w' ⟨rfl, hb⟩
  exact ⟨rfl, Bt (Ba (Ba B0)) hb⟩
theorem aw_sameI (v : Value) (h : RdI w w.heap.size v aZ0) : Calls Try.prog 20 #[v, .slice (some ⟨w.heap.size, 0, none⟩) 1 1] (w.alloc (.cells #[.int .i64 0] 3)) fun x w' => x = .returned (.bool true) ∧ Below w.heap.size w w' := by
  refine (sameI_any v _ aZ0 aZ0 true _ (h.on (Ba B0)) (lit_ints w aZ0 #[.int .i64 0] rfl (by decide)) (by simp)).mono ?_
  rintro _ w' ⟨rfl, hb⟩
  exact ⟨rfl, Bt (Ba B0) hb⟩
end

set_option maxRecDepth 100000 in
set_option maxHeartbeats 8000000 in
theorem awake_any (w : World) :
    Calls Try.prog 27 #[] w fun e w' => e = .returned (.bool true) ∧ Below w.heap.size w w' := by
  go_enter Try.func27, Try.ntmps27
  go_wp2_with fail
  refine (aw_first _).mono ?_
  rintro _ w1 ⟨A1, c1, A2, c2, rfl, r1, r2, hb⟩
  have B1 := hb
  go_upto_region 2 with fail
  have Mm : MapB (w1.alloc (.cells #[.int .i64 1, .slice A1 aS0.length c1, .slice A2 aO0.length c2] 24)) w1.heap.size 1 aS0 aO0 := MapB.new r1 r2 rfl
  have B2 : Below w.heap.size w (w1.alloc (.cells #[.int .i64 1, .slice A1 aS0.length c1, .slice A2 aO0.length c2] 24)) := Ba B1
  obtain ⟨gMm, hgMm⟩ : ∃ g, w1.heap.size = g := ⟨_, rfl⟩
  rw [hgMm] at Mm ⊢
  generalize w1.alloc (.cells #[.int .i64 1, .slice A1 aS0.length c1, .slice A2 aO0.length c2] 24) = w2 at *
  clear hgMm r1 r2 B1 hb
  obtain ⟨A1, c1, A2, c2, p0, p1, p2, r1, r2⟩ := Mm.cells
  go_wp2_with fail
  refine (aw_owner _ _ _ r1 r2).mono ?_
  rintro _ w3 ⟨rfl, hb⟩
  have B3 := Bt B2 hb
  have Mm := Mm.keep hb
  clear p0 p1 p2 r1 r2 hb
  obtain ⟨A1, c1, A2, c2, p0, p1, p2, r1, r2⟩ := Mm.cells
  go_wp2_with fail
  refine (aw_owners _ _ _ r1 r2).mono ?_
  rintro _ w4 ⟨A, c, rfl, ro, hb⟩
  have B4 := Bt B3 hb
  have Mm := Mm.keep hb
  clear p0 p1 p2 r1 r2 hb
  obtain ⟨A1, c1, A2, c2, p0, p1, p2, r1, r2⟩ := Mm.cells
  go_wp2_with fail
  clear p0 p1 p2
  have q1 := r1
  have q2 := r2
  clear r1 r2
  refine (aw_chg1 _ _ _ q1 q2).mono ?_
  rintro _ w5 ⟨A1, c1, A2, c2, rfl, r1, r2, hb⟩
  have B5 := Bt B4 hb
  have Mm := Mm.keep hb
  have ro := ro.on hb
  clear q1 q2
  go_upto_region 5 with fail
  have Mc : MapB (w5.alloc (.cells #[.int .i64 2, .slice A1 aS1.length c1, .slice A2 aO1.length c2] 24)) w5.heap.size 2 aS1 aO1 := MapB.new r1 r2 rfl
  have B6 : Below w.heap.size w (w5.alloc (.cells #[.int .i64 2, .slice A1 aS1.length c1, .slice A2 aO1.length c2] 24)) := Ba B5
  have Mm := Mm.keep (Ba (o := .cells #[.int .i64 2, .slice A1 aS1.length c1, .slice A2 aO1.length c2] 24) B0)
  have ro := ro.on (Ba (o := .cells #[.int .i64 2, .slice A1 aS1.length c1, .slice A2 aO1.length c2] 24) B0)
  obtain ⟨gMc, hgMc⟩ : ∃ g, w5.heap.size = g := ⟨_, rfl⟩
  rw [hgMc] at Mc ⊢
  generalize w5.alloc (.cells #[.int .i64 2, .slice A1 aS1.length c1, .slice A2 aO1.length c2] 24) = w6 at *
  clear hgMc r1 r2 B5 hb
  obtain ⟨A1, c1, A2, c2, p0, p1, p2, r1, r2⟩ := Mc.cells
  go_wp2_with fail
  clear p0 p1 p2
  have q1 := r1
  have q2 := r2
  clear r1 r2
  refine (aw_chg2 _ _ _ q1 q2).mono ?_
  rintro _ w7 ⟨A1, c1, A2, c2, rfl, r1, r2, hb⟩
  have B7 := Bt B6 hb
  have Mm := Mm.keep hb
  have Mc := Mc.keep hb
  have ro := ro.on hb
  clear q1 q2
  go_upto_region 6 with fail
  have Md : MapB (w7.alloc (.cells #[.int .i64 3, .slice A1 aS1.length c1, .slice A2 aO2.length c2] 24)) w7.heap.size 3 aS1 aO2 := MapB.new r1 r2 rfl
  have B8 : Below w.heap.size w (w7.alloc (.cells #[.int .i64 3, .slice A1 aS1.length c1, .slice A2 aO2.length c2] 24)) := Ba B7
  have Mm := Mm.keep (Ba (o := .cells #[.int .i64 3, .slice A1 aS1.length c1, .slice A2 aO2.length c2] 24) B0)
  have Mc := Mc.keep (Ba (o := .cells #[.int .i64 3, .slice A1 aS1.length c1, .slice A2 aO2.length c2] 24) B0)
  have ro := ro.on (Ba (o := .cells #[.int .i64 3, .slice A1 aS1.length c1, .slice A2 aO2.length c2] 24) B0)
  obtain ⟨gMd, hgMd⟩ : ∃ g, w7.heap.size = g := ⟨_, rfl⟩
  rw [hgMd] at Md ⊢
  generalize w7.alloc (.cells #[.int .i64 3, .slice A1 aS1.length c1, .slice A2 aO2.length c2] 24) = w8 at *
  clear hgMd r1 r2 B7 hb
  obtain ⟨A1, c1, A2, c2, p0, p1, p2, r1, r2⟩ := Md.cells
  go_wp2_with fail
  clear p0 p1 p2
  have q1 := r1
  have q2 := r2
  clear r1 r2
  refine (aw_chg3 _ _ _ q1 q2).mono ?_
  rintro _ w9 ⟨A1, c1, A2, c2, rfl, r1, r2, hb⟩
  have B9 := Bt B8 hb
  have Mm := Mm.keep hb
  have Mc := Mc.keep hb
  have Md := Md.keep hb
  have ro := ro.on hb
  clear q1 q2
  go_upto_region 7 with fail
  have Mj : MapB (w9.alloc (.cells #[.int .i64 4, .slice A1 aS3.length c1, .slice A2 aO0.length c2] 24)) w9.heap.size 4 aS3 aO0 := MapB.new r1 r2 rfl
  have B10 : Below w.heap.size w (w9.alloc (.cells #[.int .i64 4, .slice A1 aS3.length c1, .slice A2 aO0.length c2] 24)) := Ba B9
  have Mm := Mm.keep (Ba (o := .cells #[.int .i64 4, .slice A1 aS3.length c1, .slice A2 aO0.length c2] 24) B0)
  have Mc := Mc.keep (Ba (o := .cells #[.int .i64 4, .slice A1 aS3.length c1, .slice A2 aO0.length c2] 24) B0)
  have Md := Md.keep (Ba (o := .cells #[.int .i64 4, .slice A1 aS3.length c1, .slice A2 aO0.length c2] 24) B0)
  have ro := ro.on (Ba (o := .cells #[.int .i64 4, .slice A1 aS3.length c1, .slice A2 aO0.length c2] 24) B0)
  obtain ⟨gMj, hgMj⟩ : ∃ g, w9.heap.size = g := ⟨_, rfl⟩
  rw [hgMj] at Mj ⊢
  generalize w9.alloc (.cells #[.int .i64 4, .slice A1 aS3.length c1, .slice A2 aO0.length c2] 24) = w10 at *
  clear hgMj r1 r2 B9 hb
  obtain ⟨A1, c1, A2, c2, p0, p1, p2, r1, r2⟩ := Mm.cells
  go_wp2_with fail
  refine (aw_chg4 _ _ _ r1 r2).mono ?_
  rintro _ w11 ⟨rfl, hb⟩
  have B11 := Bt B10 hb
  have Mm := Mm.keep hb
  have Mc := Mc.keep hb
  have Md := Md.keep hb
  have Mj := Mj.keep hb
  have ro := ro.on hb
  clear p0 p1 p2 r1 r2
  go_upto_region 8 with fail
  have B12 : Below w.heap.size w (w11.alloc (.cells #[.int .i64 0, .slice none 0 0, .slice none 0 0] 24)) := Ba B11
  have Mm := Mm.keep (Ba (o := .cells #[.int .i64 0, .slice none 0 0, .slice none 0 0] 24) B0)
  have Mc := Mc.keep (Ba (o := .cells #[.int .i64 0, .slice none 0 0, .slice none 0 0] 24) B0)
  have Md := Md.keep (Ba (o := .cells #[.int .i64 0, .slice none 0 0, .slice none 0 0] 24) B0)
  have Mj := Mj.keep (Ba (o := .cells #[.int .i64 0, .slice none 0 0, .slice none 0 0] 24) B0)
  have ro := ro.on (Ba (o := .cells #[.int .i64 0, .slice none 0 0, .slice none 0 0] 24) B0)
  obtain ⟨gMp, hgMp⟩ : ∃ g, w11.heap.size = g := ⟨_, rfl⟩
  rw [hgMp]
  generalize w11.alloc (.cells #[.int .i64 0, .slice none 0 0, .slice none 0 0] 24) = w12 at *
  clear hgMp B11 hb
  go_wp2_with fail
  refine (aw_none _).mono ?_
  rintro _ w13 ⟨rfl, hb⟩
  have B13 := Bt B12 hb
  have Mm := Mm.keep hb
  have Mc := Mc.keep hb
  have Md := Md.keep hb
  have Mj := Mj.keep hb
  have ro := ro.on hb
  have B14 : Below w.heap.size w (w13.alloc (.cells #[.int .i64 0, .slice none 0 0, .slice none 0 0] 24)) := Ba B13
  have Mm := Mm.keep (Ba (o := .cells #[.int .i64 0, .slice none 0 0, .slice none 0 0] 24) B0)
  have Mc := Mc.keep (Ba (o := .cells #[.int .i64 0, .slice none 0 0, .slice none 0 0] 24) B0)
  have Md := Md.keep (Ba (o := .cells #[.int .i64 0, .slice none 0 0, .slice none 0 0] 24) B0)
  have Mj := Mj.keep (Ba (o := .cells #[.int .i64 0, .slice none 0 0, .slice none 0 0] 24) B0)
  have ro := ro.on (Ba (o := .cells #[.int .i64 0, .slice none 0 0, .slice none 0 0] 24) B0)
  obtain ⟨A1, c1, A2, c2, p0, p1, p2, r1, r2⟩ := Mm.cells
  go_wp2_with fail
  refine (aw_same1 (w13.alloc (.cells #[.int .i64 0, .slice none 0 0, .slice none 0 0] 24)) _ _ (w13.heap.size + 1) (by simp) r1 r2).mono ?_
  rintro _ w15 ⟨rfl, hb⟩
  have B15 := Bt B14 hb
  have Mm := Mm.keep hb
  have Mc := Mc.keep hb
  have Md := Md.keep hb
  have Mj := Mj.keep hb
  have ro := ro.on hb
  clear p0 p1 p2 r1 r2 hb
  go_wp2_with (first | (go_at_call 19; refine (num_any _ _).mono ?_; rintro e w' ⟨rfl, rfl⟩))
  refine (aw_sameI _ _ ro).mono ?_
  rintro _ w16 ⟨rfl, hb⟩
  have B16 := Bt B15 hb
  have Mm := Mm.keep hb
  have Mc := Mc.keep hb
  have Md := Md.keep hb
  have Mj := Mj.keep hb
  have ro := ro.on hb
  clear hb
  obtain ⟨A1, c1, A2, c2, p0, p1, p2, r1, r2⟩ := Mc.cells
  go_wp2_with (first | (go_at_call 19; refine (num_any _ _).mono ?_; rintro e w' ⟨rfl, rfl⟩))
  refine (aw_same2 _ _ _ _ rfl r1 r2).mono ?_
  rintro _ w17 ⟨rfl, hb⟩
  have B17 := Bt B16 hb
  have Mm := Mm.keep hb
  have Mc := Mc.keep hb
  have Md := Md.keep hb
  have Mj := Mj.keep hb
  have ro := ro.on hb
  clear p0 p1 p2 r1 r2 hb
  obtain ⟨A1, c1, A2, c2, p0, p1, p2, r1, r2⟩ := Md.cells
  obtain ⟨y0⟩ : Nonempty (w17.cell? ⟨gMd, 2, none⟩ = some (.slice A2 3 c2)) := ⟨p2⟩
  obtain ⟨A, c, e, -, hA⟩ := r2
  cases e
  obtain ⟨b, off, rfl, hb, hc⟩ := hA (by decide)
  have x1 := hc 1 (by decide)
  rw [show it aO2 1 = 1 from rfl] at x1
  clear p0 p1 p2 r1 hc hA
  obtain ⟨A1, c1, A2, c2, p0, p1, p2, r1, r2⟩ := Mj.cells
  go_wp2_with (first | (go_at_call 19; refine (num_any _ _).mono ?_; rintro e w' ⟨rfl, rfl⟩))
  refine (aw_same3 _ _ _ _ rfl r1 r2).mono ?_
  rintro _ w18 ⟨rfl, hb⟩
  have B18 := Bt B17 hb
  have Mm := Mm.keep hb
  have Mc := Mc.keep hb
  have Md := Md.keep hb
  have Mj := Mj.keep hb
  have ro := ro.on hb
  clear p0 p1 p2 r1 r2 hb y0 x1
  obtain ⟨A1, c1, A2, c2, p0, p1, p2, r1, r2⟩ := Mm.cells
  go_wp2_with (first | (go_at_call 19; refine (num_any _ _).mono ?_; rintro e w' ⟨rfl, rfl⟩))
  refine (aw_may2 _ _ _ r1 r2).mono ?_
  rintro _ w19 ⟨rfl, hb⟩
  have B19 := Bt B18 hb
  have Mm := Mm.keep hb
  have Mc := Mc.keep hb
  have Md := Md.keep hb
  have Mj := Mj.keep hb
  have ro := ro.on hb
  clear p0 p1 p2 r1 r2 hb
  obtain ⟨A1, c1, A2, c2, p0, p1, p2, r1, r2⟩ := Mm.cells
  go_wp2_with (first | (go_at_call 19; refine (num_any _ _).mono ?_; rintro e w' ⟨rfl, rfl⟩))
  refine (aw_may1 _ _ _ r1 r2).mono ?_
  rintro _ w20 ⟨rfl, hb⟩
  have B20 := Bt B19 hb
  have Mm := Mm.keep hb
  have Mc := Mc.keep hb
  have Md := Md.keep hb
  have Mj := Mj.keep hb
  have ro := ro.on hb
  clear p0 p1 p2 r1 r2 hb
  go_wp2_with fail
  go_ret
  exact ⟨rfl, B20⟩
end Go.Proofs.Ytbgkkpfhjggbkaa.IntW
