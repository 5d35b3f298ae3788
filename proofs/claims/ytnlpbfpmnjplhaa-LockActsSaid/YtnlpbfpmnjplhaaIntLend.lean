/-
  CopyInts, LendInts, KeptInts, SpoilInts: a copy with marked room behind it, of any length that there may be; what is written over.
-/
import Derived.Test.YtnlpbfpmnjplhaaIntApp
import Derived.Test.YtnlpbfpmnjplhaaSlRow
namespace Go.Proofs.Ytnlpbfpmnjplhaa.IntW
open Go.RowKit WideW CovW SlW
set_option linter.all false

set_option maxHeartbeats 1000000 in
theorem copyI_any (v : Value) (l : List Int) (w : World) (hv : RdI w w.heap.size v l) (hz : l.length * 8 ≤ 140737488355328) :
    Calls Try.prog 21 #[v] w fun e w' => ∃ v', e = .returned v' ∧ InRow w' w.heap.size v' l ∧ Below w.heap.size w w' := by
  have HE := Lib.hid (row_empty w w.heap.size (Nat.le_refl _))
  have HV := Lib.hid (hv.on (Ba (o := .cells #[] 3) B0))
  have HZ := Lib.hid (show (([] : List Int).length + l.length) * 8 ≤ 140737488355328 by simp; omega)
  clear hv hz
  go_enter Try.func21, Try.ntmps21
  go_wp2_with (at_builtin; refine app_list rfl (.tmp 3) (.tmp 4) rfl rfl rfl HE.out HV.out HZ.out (by simp) ?_; intro v1 w1 hR hF; rw [List.nil_append] at hR)
  have hb : Below w.heap.size w w1 := (Ba (o := .cells #[] 3) B0).grown hF.1 (by simp) (fun q e => (World.ownsRow.lt HE.out q e).1)
  obtain ⟨A1, c1, rfl⟩ := hR.slice
  go_wp2_with fail
  exact bodyPost_ret (v := .slice A1 l.length c1) (by simp [results, Try.results21, go_sem]) rfl ⟨_, rfl, hR, hb⟩
/-- What LendInts answers: a copy with marked room behind it, in block g. -/
def LentI (w : World) (g cap : Nat) (l : List Int) : Prop := ∃ cs, Blk w g 3 cs ∧ l.length + 2 ≤ cap ∧ cap ≤ 9223372036854775807 ∧ ∀ i, i < l.length + 2 → cs[i]? = some (.int .i64 (it (l ++ [-7777, -8888]) i))
theorem LentI.ft {w w' : World} {g cap : Nat} {l : List Int} {S : Nat → Prop} (h : LentI w g cap l) (f : Ft S w w') (hg : ¬ S g) : LentI w' g cap l := by
  obtain ⟨cs, b, h1⟩ := h
  exact ⟨cs, f.blk b hg, h1⟩
theorem LentI.on {w w' : World} {g cap : Nat} {l : List Int} (h : LentI w g cap l) (hb : Below w.heap.size w w') : LentI w' g cap l := h.ft (S := fun _ => False) (Ft.of_below hb) (fun e => e)
theorem LentI.lt {w : World} {g cap : Nat} {l : List Int} (h : LentI w g cap l) : g < w.heap.size := by
  obtain ⟨cs, b, -⟩ := h
  exact b.lt
theorem it_app {l m : List Int} {i : Nat} (h : i < l.length) : it (l ++ m) i = it l i := by
  simp [it, List.getElem?_append_left h]
theorem LentI.read {w : World} {g cap : Nat} {l : List Int} (h : LentI w g cap l) : RdI w w.heap.size (.slice (some ⟨g, 0, none⟩) l.length cap) l := by
  obtain ⟨cs, b, h1, h2, h3⟩ := h
  refine ⟨_, _, rfl, by omega, fun _ => ⟨g, 0, rfl, b.lt, fun i hi => ?_⟩⟩
  have e := h3 i (by omega)
  rw [it_app hi] at e
  rw [Nat.zero_add, b.cell, e]
theorem new_two (W : World) (a b : Int) : RdI (W.alloc (.cells #[.int .i64 a, .int .i64 b] 3)) (W.alloc (.cells #[.int .i64 a, .int .i64 b] 3)).heap.size (.slice (some ⟨W.heap.size, 0, none⟩) 2 2) [a, b] := by
  refine ⟨_, _, rfl, by simp, fun _ => ⟨_, 0, rfl, by simp, fun i hi => ?_⟩⟩
  have hb := Blk.new' W 3 #[.int .i64 a, .int .i64 b] rfl
  rw [Nat.zero_add, hb.cell]
  have hi2 : i < 2 := hi
  rcases i with _ | _ | i
  · rfl
  · rfl
  · omega
theorem lent_of {w : World} {base n cap g : Nat} {l : List Int} (h : w.ownsRow base 3 1 (.slice (some ⟨g, 0, none⟩) n cap) n (inCells (l ++ [-7777, -8888]))) (hn : n = l.length + 2) : LentI w g cap l ∧ base ≤ g := by
  have hc := fun i => World.ownsRow.cellAt h i
  rcases h.2 with ⟨e, -⟩ | ⟨g', cap', cur, e, hb, hg, h1, h2, -⟩
  · cases e
  · cases e
    have b : Blk w g 3 cur := hg
    refine ⟨⟨cur, b, by omega, h2, fun i hi => ?_⟩, hb⟩
    have e := hc i (by omega)
    rw [b.cell] at e
    rw [e]
    exact inCells_at (by simp; omega)
theorem LentI.caps {w : World} {g cap : Nat} {l : List Int} (h : LentI w g cap l) : l.length + 2 ≤ cap ∧ cap ≤ 9223372036854775807 := by
  obtain ⟨cs, b, h1, h2, h3⟩ := h
  exact ⟨h1, h2⟩
theorem inrow_form {w : World} {base : Nat} {v : Value} {l : List Int} (h : InRow w base v l) (h0 : 0 < l.length) : ∃ g c, v = .slice (some ⟨g, 0, none⟩) l.length c := by
  rcases h.2 with ⟨-, e⟩ | ⟨g, cap, cur, rfl, -⟩
  · omega
  · exact ⟨_, _, rfl⟩

set_option maxHeartbeats 1000000 in
theorem lendI_any (v : Value) (l : List Int) (w : World) (hv : RdI w w.heap.size v l) (hz : l.length * 8 ≤ 140737488351232) :
    Calls Try.prog 7 #[v] w fun e w' => ∃ g cap, e = .returned (.slice (some ⟨g, 0, none⟩) l.length cap) ∧ LentI w' g cap l ∧ w.heap.size ≤ g ∧ Below w.heap.size w w' := by
  have hv' := hv
  obtain ⟨A, c, rfl, -, -⟩ := hv'
  go_enter Try.func7, Try.ntmps7
  go_wp2_with fail
  refine (copyI_any _ l w hv (by omega)).mono ?_
  rintro _ w1 ⟨v1, rfl, R1, hb1⟩
  have s1 := hb1.size
  have HR1 := Lib.hid (R1.alloc (.cells #[.int .i64 (-7777), .int .i64 (-8888)] 3))
  have HN := Lib.hid (new_two w1 (-7777) (-8888))
  have HZ := Lib.hid (show (l.length + [(-7777 : Int), -8888].length) * 8 ≤ 140737488355328 by simp; omega)
  have HB := Lib.hid (Ba (o := .cells #[.int .i64 (-7777), .int .i64 (-8888)] 3) hb1)
  obtain ⟨A1, c1, rfl⟩ := R1.slice
  clear hv R1 hb1 hz
  go_wp2_with (at_builtin; refine app_list rfl (.tmp 5) (.tmp 6) rfl rfl rfl HR1.out HN.out HZ.out (by simp; omega) ?_; intro v2 w2 hR hF; have BW := HB.out.grown hF.1 (by simp; omega) (fun q e => (World.ownsRow.lt HR1.out q e).1); obtain ⟨g, c2, rfl⟩ := inrow_form hR (by simp); obtain ⟨LI, hbg⟩ := lent_of hR (by simp); obtain ⟨hc1, hc2⟩ := LI.caps; rw [List.length_append, show [(-7777 : Int), -8888].length = 2 from rfl])
  refine bodyPost_ret (v := .slice (some ⟨g, 0, none⟩) l.length c2) (by simp [results, Try.results7, go_sem]) rfl ⟨_, _, rfl, LI, hbg, BW⟩

set_option maxHeartbeats 2000000 in
theorem keptI_any (v' : Value) (g cap : Nat) (l : List Int) (w : World) (hL : LentI w g cap l) (hv : RdI w w.heap.size v' l) :
    Calls Try.prog 10 #[.slice (some ⟨g, 0, none⟩) l.length cap, v'] w fun e w' => e = .returned (.bool true) ∧ Below w.heap.size w w' := by
  have HR := Lib.hid hL.read
  obtain ⟨h1, h2⟩ := hL.caps
  have HV := Lib.hid hv
  obtain ⟨A, c, rfl, -⟩ := hv
  have HL := Lib.hid hL
  have ew : IntKind.i64.wrap ((l.length : Int) + 2) = (l.length : Int) + 2 := by rw [IntKind.wrap_i64]; omega
  have ew1 : IntKind.i64.wrap ((l.length : Int) + 1) = (l.length : Int) + 1 := by rw [IntKind.wrap_i64]; omega
  clear hL
  go_enter Try.func10, Try.ntmps10
  go_wp2_with fail
  refine (sameI_any _ _ l l true _ HR.out HV.out (by simp)).mono ?_
  rintro _ w2 ⟨rfl, hb⟩
  have L2 := HL.out.on hb
  obtain ⟨cs, b, -, -, h4⟩ := L2
  have c0 := (b.cell l.length).trans (h4 l.length (by omega))
  have c1 := (b.cell (l.length + 1)).trans (h4 (l.length + 1) (by omega))
  have e0 : it (l ++ [(-7777 : Int), -8888]) l.length = -7777 := by simp [it]
  have e1 : it (l ++ [(-7777 : Int), -8888]) (l.length + 1) = -8888 := by simp [it]
  rw [e0] at c0
  rw [e1] at c1
  clear h4 e0 e1 b
  go_wp2_with fail
  go_ret
  exact ⟨rfl, hb⟩

set_option maxHeartbeats 2000000 in
theorem spoilL_any (g cap : Nat) (l : List Int) (w : World) (h : LentI w g cap l) :
    Calls Try.prog 11 #[.slice (some ⟨g, 0, none⟩) l.length cap] w fun x w' => x = .returned (.tuple #[]) ∧ Ft (fun k => k = g) w w' := by
  obtain ⟨cs, b, h1, h2, h3⟩ := h
  obtain ⟨n, hn⟩ : ∃ n, l.length = n := ⟨_, rfl⟩
  rw [hn] at h1 h3 ⊢
  have H3 : Hid (∀ i, i < n → ∃ z, cs[i]? = some (.int .i64 z)) := Lib.hid (fun i hi => ⟨_, h3 i (by omega)⟩)
  clear h3 hn
  go_enter Try.func11, Try.ntmps11
  go_wp2_with fail
  go_loopw [2] (fun i W => ∃ (k : Nat) (cs : Array Value), k ≤ n ∧ i = .int .i64 k ∧ Blk W g 3 cs ∧ Hid (∀ i, i < n → ∃ z, cs[i]? = some (.int .i64 z)) ∧ Ft (fun k => k = g) w W) (fun i _ => n - (intOf i).toNat)
  case atStart => exact ⟨0, cs, Nat.zero_le _, rfl, b, H3, Ft.refl _ _⟩
  case round =>
    clear b H3
    obtain ⟨k, cs, hk, rfl, b, H3, F⟩ := hrel
    by_cases hkn : k < n
    case pos =>
      obtain ⟨z, e⟩ := H3.out k hkn
      have c0 := (b.cell k).trans e
      have f0 := b.frozen k
      have hlt := (Array.getElem?_eq_some_iff.1 e).1
      have SS := fun y => Lib.hid (And.intro (b.set_ k y) (F.set (p := ⟨g, k, none⟩) (.inl rfl) y))
      have g1 : (k : Int) < n := by omega
      clear b F e hk hkn
      go_wp2_with fail
      refine ⟨⟨k + 1, _, by omega, by simp only [Int.natCast_add, Int.cast_ofNat_Int], (SS _).out.1, Lib.hid (fun i hi => ?_), (SS _).out.2⟩, by simp [intOf]; omega⟩
      rw [Array.getElem?_setIfInBounds]
      split
      · exact ⟨_, rfl⟩
      · exact H3.out i hi
    case neg =>
      obtain rfl : k = n := by omega
      clear H3
      go_wp2_with fail
      exact bodyPost_end (v := .tuple #[]) (by simp [results, Try.results11, go_sem]) rfl ⟨rfl, F⟩
end Go.Proofs.Ytnlpbfpmnjplhaa.IntW
