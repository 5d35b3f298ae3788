/-
  Layer 13's laws: what every program that is one answers (over XLckFr).
-/
import Derived.Test.YtnlpbfpmnjplhaaLckFr
import Derived.Test.YtnlpbfpmnjplhaaIntLend
import Derived.Deep.DeepCutAuto
import Derived.Deep.RegionHeld3
namespace Go.Proofs.Ytnlpbfpmnjplhaa.LckW
open Go.RowKit WideW IntW CovW SlW
set_option linter.all false

def hoA : Ho := ⟨0, 1, [1, 2], false⟩
def hoB : Ho := ⟨0, 2, [3], false⟩
theorem aw1 : TakeOut [] ⟨0, 1, [1, 2], false⟩ true [hoA] := .inl ⟨rfl, (fun x hx => nomatch hx), rfl⟩
theorem aw2 : TakeOut [hoA] ⟨0, 2, [3, 2], false⟩ false [hoA] := .inr ⟨rfl, fun h => h hoA (by simp) (.inr (.inr (.inr ⟨2, by simp, by simp [hoA]⟩))), rfl⟩
theorem aw3 : TakeOut [hoA] ⟨0, 2, [], true⟩ false [hoA] := .inr ⟨rfl, fun h => h hoA (by simp) (.inr (.inr (.inl rfl))), rfl⟩
theorem aw4 : TakeOut [hoA] ⟨0, 2, [3], false⟩ true [hoA, hoB] := .inl ⟨rfl, fun x hx => by
  obtain rfl := List.mem_singleton.1 hx
  rintro (e | e | e | ⟨i, hi, e⟩)
  · have := e.2; simp [hoA] at this
  · cases e
  · cases e
  · simp [hoA] at hi e; omega, rfl⟩
theorem aw5 : HoldOut [hoA, hoB] 3 0 2 true := .inl ⟨rfl, 1, by simp, fun j hj => by
  obtain rfl : j = 0 := by omega
  simp [hoAt, Holds, hoA], by simp [hoAt, Holds, hoB], by simp [hoAt, hoB], by simp [hoAt, hoB]⟩
theorem aw6 : freeL [hoA, hoB] 0 1 = [hoB] := by simp [freeL, hoA, hoB]
theorem aw7 : HoldOut [hoB] 1 0 0 false := .inr ⟨rfl, fun x hx => by
  obtain rfl := List.mem_singleton.1 hx
  simp [Holds, hoB], rfl, rfl⟩
theorem new_one (W : World) (a : Int) : RdI (W.alloc (.cells #[.int .i64 a] 3)) (W.alloc (.cells #[.int .i64 a] 3)).heap.size (.slice (some ⟨W.heap.size, 0, none⟩) 1 1) [a] := by
  refine ⟨_, _, rfl, by simp, fun _ => ⟨_, 0, rfl, by simp, fun i hi => ?_⟩⟩
  have hb := Blk.new' W 3 #[.int .i64 a] rfl
  rw [Nat.zero_add, hb.cell]
  have hi2 : i < 1 := hi
  obtain rfl : i = 0 := by omega
  rfl

theorem new_tx (W : World) (a b : Int) : RdT (W.alloc (.cells #[.int .i64 a, .int .i64 b] 30)) (W.alloc (.cells #[.int .i64 a, .int .i64 b] 30)).heap.size (.slice (some ⟨W.heap.size, 0, none⟩) 1 1) [(a, b)] := by
  refine ⟨_, _, rfl, by simp, fun _ => ⟨_, 0, rfl, by simp, fun i hi => ?_⟩⟩
  have hb := Blk.new' W 30 #[.int .i64 a, .int .i64 b] rfl
  have hi2 : i < 1 := hi
  obtain rfl : i = 0 := by omega
  exact ⟨by rw [hb.cell]; rfl, by rw [hb.cell]; rfl⟩
theorem ok01 : txOk (0, 1) := ⟨rfl, rfl⟩
theorem ok02 : txOk (0, 2) := ⟨rfl, rfl⟩
theorem wf12 : ∀ i ∈ [(1 : Int), 2], (Lit.int .i64 i).wf = true := by intro i hi; simp at hi; rcases hi with rfl | rfl <;> rfl
theorem wf32 : ∀ i ∈ [(3 : Int), 2], (Lit.int .i64 i).wf = true := by intro i hi; simp at hi; rcases hi with rfl | rfl <;> rfl
theorem wf3 : ∀ i ∈ [(3 : Int)], (Lit.int .i64 i).wf = true := by intro i hi; simp at hi; subst hi; rfl
theorem own_ne {g tb n c : Nat} (h : tb < g) : (Value.slice (some ⟨g, 0, none⟩) n c).ownBlock ≠ some tb := by simp [Value.ownBlock]; omega
theorem own_nil {tb : Nat} : (Value.slice none 0 0).ownBlock ≠ some tb := by simp [Value.ownBlock]
set_option maxRecDepth 100000 in
set_option maxHeartbeats 4000000 in
theorem awake_any (w : World) :
    Calls Try.prog 19 #[] w fun e w' => e = .returned (.bool true) ∧ Below w.heap.size w w' := by
  go_enter Try.func19, Try.ntmps19
  go_wp2_with fail
  refine (new_lf w w (fun _ => False) (fun k h => h.elim) B0).mono ?_
  rintro _ w1 ⟨tb, rfl, T, -⟩
  go_upto_region 3 with fail
  have T2 := T.more (Ba (o := (.cells #[.int .i64 0, .int .i64 2] 30)) (Ba (o := (.cells #[.int .i64 0, .int .i64 1] 30)) B0))
  obtain ⟨I, hI⟩ : ∃ I, w1.heap.size = I := ⟨_, rfl⟩
  have kA := (Blk.new' w1 30 #[.int .i64 0, .int .i64 1] hI.symm).alloc (.cells #[.int .i64 0, .int .i64 2] 30)
  have kB := Blk.new' (w1.alloc (.cells #[.int .i64 0, .int .i64 1] 30)) 30 #[.int .i64 0, .int .i64 2] (show I + 1 = (w1.alloc (.cells #[.int .i64 0, .int .i64 1] 30)).heap.size by simp [hI])
  obtain ⟨P, T3, pA, pB⟩ : ∃ P : Nat → Prop, LkF w ((w1.alloc (.cells #[.int .i64 0, .int .i64 1] 30)).alloc (.cells #[.int .i64 0, .int .i64 2] 30)) P tb 0 [] ∧ P I ∧ P (I + 1) := ⟨_, T2, .inr ⟨by omega, by simp [hI] <;> omega⟩, .inr ⟨by omega, by simp [hI] <;> omega⟩⟩
  have PA := Lib.hid pA
  have PB := Lib.hid pB
  try rw [hI]
  clear T T2 hI pA pB
  generalize (w1.alloc (.cells #[.int .i64 0, .int .i64 1] 30)).alloc (.cells #[.int .i64 0, .int .i64 2] 30) = w2 at *
  have PT := take_lf (T3.keep (Ba (o := .cells #[.int .i64 1, .int .i64 2] 3) B0)) (by omega) 0 1 _ [1, 2] false ok01 (new_two w2 1 2) (fun _ => own_ne T3.tb_lt) wf12 (by simp)
  have a0 := kA.cell 0
  have a1 := kA.cell 1
  have b0 := kB.cell 0
  have b1 := kB.cell 1
  simp at a0 a1 b0 b1
  go_wp2_with fail
  refine PT.mono ?_
  rintro _ w3 ⟨r, L', rfl, ho, T4, ft⟩
  obtain ⟨rfl, rfl⟩ := ho.uniq aw1
  replace kA := ft.blk (kA.alloc (.cells #[.int .i64 1, .int .i64 2] 3)) (fun hn => hn PA.out)
  replace kB := ft.blk (kB.alloc (.cells #[.int .i64 1, .int .i64 2] 3)) (fun hn => hn PB.out)
  clear PT ft ho a0 a1 b0 b1 T3
  have PT := take_lf (T4.keep (Ba (o := .cells #[.int .i64 3, .int .i64 2] 3) B0)) (by omega) 0 2 _ [3, 2] false ok02 (new_two w3 3 2) (fun _ => own_ne T4.tb_lt) wf32 (by simp)
  have a0 := kA.cell 0
  have a1 := kA.cell 1
  have b0 := kB.cell 0
  have b1 := kB.cell 1
  simp at a0 a1 b0 b1
  go_wp2_with fail
  refine PT.mono ?_
  rintro _ w4 ⟨r, L', rfl, ho, T5, ft⟩
  obtain ⟨rfl, rfl⟩ := ho.uniq aw2
  replace kA := ft.blk (kA.alloc (.cells #[.int .i64 3, .int .i64 2] 3)) (fun hn => hn PA.out)
  replace kB := ft.blk (kB.alloc (.cells #[.int .i64 3, .int .i64 2] 3)) (fun hn => hn PB.out)
  clear PT ft ho a0 a1 b0 b1 T4
  have PT := take_lf (T5) (by omega) 0 2 _ [] true ok02 (RdI.nil w4 _ 0 none) (fun _ => own_nil) (by simp) (by simp)
  have a0 := kA.cell 0
  have a1 := kA.cell 1
  have b0 := kB.cell 0
  have b1 := kB.cell 1
  simp at a0 a1 b0 b1
  go_wp2_with fail
  refine PT.mono ?_
  rintro _ w5 ⟨r, L', rfl, ho, T6, ft⟩
  obtain ⟨rfl, rfl⟩ := ho.uniq aw3
  replace kA := ft.blk kA (fun hn => hn PA.out)
  replace kB := ft.blk kB (fun hn => hn PB.out)
  clear PT ft ho a0 a1 b0 b1 T5
  have PT := take_lf (T6.keep (Ba (o := .cells #[.int .i64 3] 3) B0)) (by omega) 0 2 _ [3] false ok02 (new_one w5 3) (fun _ => own_ne T6.tb_lt) wf3 (by simp)
  have a0 := kA.cell 0
  have a1 := kA.cell 1
  have b0 := kB.cell 0
  have b1 := kB.cell 1
  simp at a0 a1 b0 b1
  go_wp2_with fail
  refine PT.mono ?_
  rintro _ w6 ⟨r, L', rfl, ho, T7, ft⟩
  obtain ⟨rfl, rfl⟩ := ho.uniq aw4
  replace kA := ft.blk (kA.alloc (.cells #[.int .i64 3] 3)) (fun hn => hn PA.out)
  replace kB := ft.blk (kB.alloc (.cells #[.int .i64 3] 3)) (fun hn => hn PB.out)
  clear PT ft ho a0 a1 b0 b1 T6
  have PH := holder_lf T7 (by omega) 3 rfl
  go_wp2_with fail
  refine PH.mono ?_
  rintro _ w7 ⟨n, s, r, rfl, ho, hb⟩
  obtain ⟨rfl, rfl, rfl⟩ := ho.uniq aw5
  replace kA := kA.keep hb
  replace kB := kB.keep hb
  replace T7 := T7.keep hb
  clear PH ho hb
  obtain ⟨J, hJ⟩ : ∃ J, w7.heap.size = J := ⟨_, rfl⟩
  have kH := Blk.new' w7 30 #[.int .i64 0, .int .i64 2] hJ.symm
  have T8 := T7.more (Ba (o := (.cells #[.int .i64 0, .int .i64 2] 30)) B0)
  obtain ⟨P2, T9, qA, qB, qH⟩ : ∃ P : Nat → Prop, LkF w (w7.alloc (.cells #[.int .i64 0, .int .i64 2] 30)) P tb 4 [hoA, hoB] ∧ P I ∧ P (I + 1) ∧ P J := ⟨_, T8, .inl PA.out, .inl PB.out, .inr ⟨by omega, by simp [hJ]⟩⟩
  have QQ := Lib.hid (And.intro qA (And.intro qB qH))
  replace kA := kA.alloc (.cells #[.int .i64 0, .int .i64 2] 30)
  replace kB := kB.alloc (.cells #[.int .i64 0, .int .i64 2] 30)
  clear PA PB T8 T7 qA qB qH
  go_upto_region 8 with fail
  try rw [hJ]
  clear hJ
  generalize w7.alloc (.cells #[.int .i64 0, .int .i64 2] 30) = w8 at *
  have PF := free_lf T9 0 1 ok01
  have a0 := kA.cell 0
  have a1 := kA.cell 1
  simp at a0 a1
  go_wp2_with fail
  refine PF.mono ?_
  rintro _ w9 ⟨rfl, T10, ft⟩
  rw [aw6] at T10
  replace kB := ft.blk kB (fun hn => hn QQ.out.2.1)
  replace kH := ft.blk kH (fun hn => hn QQ.out.2.2)
  clear PF ft a0 a1 T9 kA QQ
  have PH := holder_lf T10 (by omega) 1 rfl
  go_wp2_with fail
  refine PH.mono ?_
  rintro _ w10 ⟨n, s, r, rfl, ho, hb⟩
  obtain ⟨rfl, rfl, rfl⟩ := ho.uniq aw7
  replace kB := (kB.keep hb).alloc (.cells #[.int .i64 0, .int .i64 0] 30)
  replace kH := (kH.keep hb).alloc (.cells #[.int .i64 0, .int .i64 0] 30)
  replace T10 := (T10.keep hb).keep (Ba (o := .cells #[.int .i64 0, .int .i64 0] 30) B0)
  clear PH ho hb
  go_upto_region 10 with fail
  generalize w10.alloc (.cells #[.int .i64 0, .int .i64 0] 30) = w11 at *
  have b0 := kB.cell 0
  have b1 := kB.cell 1
  have e0 := kH.cell 0
  have e1 := kH.cell 1
  simp at b0 b1 e0 e1
  have BW := T10.below
  have PA : ∀ W, Below w11.heap.size w11 W → Calls Try.prog 17 #[.pointer (some ⟨tb, 0, none⟩)] W (fun E w' => ∃ A n c, E = .returned (.slice A n c) ∧ RdT w' w'.heap.size (.slice A n c) [(0, 2)] ∧ Below W.heap.size W w') := fun W b => all_lf (T10.keep b) (by omega)
  have PA1 := PA w11.drew (Bd B0)
  have PA2 := PA (w11.alloc (.cells #[.int .i64 0, .int .i64 2] 30)).drew (Bd (Ba B0))
  clear T10 kB kH PA
  go_region_held3 (fun w' => w'.cell? ⟨I + 1, 0, none⟩ = some (.int .i64 0) ∧ w'.cell? ⟨I + 1, 1, none⟩ = some (.int .i64 2) ∧ w'.cell? ⟨J, 0, none⟩ = some (.int .i64 0) ∧ w'.cell? ⟨J, 1, none⟩ = some (.int .i64 2))
    (first | exact ⟨b0, b1, e0, e1⟩ | exact kp4 (by assumption) (by assumption) | exact kp4 (Ba B0) (by assumption) | assumption | go_keep)
    (first
      | (go_at_call 17; (first | (with_reducible refine PA1.mono ?_) | (with_reducible refine PA2.mono ?_)); rintro e w13 ⟨A2, n2, c2, rfl, R13, b13⟩)
      | (go_at_call 16; (with_reducible refine (sameT_any _ _ [(0, 2)] [(0, 2)] true _ (by first | exact R13 | exact R13.on (Ba B0)) (by first | exact new_tx _ 0 2 | exact (new_tx _ 0 2).on b13 | exact ((new_tx w11 0 2).on (Bd B0)).on b13) (by simp)).mono ?_); rintro e w14 ⟨rfl, b14⟩)
      | (go_at_call 20; (with_reducible refine (num_any _ _).mono ?_); rintro e w' ⟨rfl, rfl⟩))
  all_goals clear PA1 PA2
  all_goals go_wp2_with fail
  all_goals go_ret
  all_goals first | exact ⟨rfl, Bt (Ba (Bt (Bd BW) b13)) b14⟩ | exact ⟨rfl, Bt (Bt (Bd (Ba BW)) b13) b14⟩
end Go.Proofs.Ytnlpbfpmnjplhaa.LckW
