/-
  The walks of the program's own Owner and changeMay.
-/
import Derived.Test.YtbgkkpfhjggbkaaMapOwnC
namespace Go.Proofs.Ytbgkkpfhjggbkaa.IntW
open Go.RowKit WideW CovW
set_option linter.all false

set_option maxRecDepth 100000 in
set_option maxHeartbeats 4000000 in
theorem owner_any (e d o n : Int) (vs vo : Value) (ss os : List Int) (w : World) (hs : RdI w w.heap.size vs ss) (ho : RdI w w.heap.size vo os) (h : ownerOut e ss os d o n) :
    Calls Try.prog 12 #[.agg #[.int .i64 e, vs, vo], .int .i64 d] w fun x w' => x = .returned (.tuple #[.int .i64 o, .int .i64 n]) ∧ Below w.heap.size w w' := by
  obtain ⟨r, HR⟩ := has_bool (MapOk e ss os 8)
  obtain ⟨q, HQ⟩ := has_bool (0 ≤ d ∧ d < 4294967296)
  obtain ⟨A1, c1, rfl, -, -⟩ := id hs
  obtain ⟨A2, c2, rfl, -, h2⟩ := id ho
  have P1 := Blk.new w 24 #[.int .i64 e, .slice A1 ss.length c1, .slice A2 os.length c2]
  have B1 : Below w.heap.size w (w.alloc (.cells #[.int .i64 e, .slice A1 ss.length c1, .slice A2 os.length c2] 24)) := Ba B0
  have hs1 := hs.on B1
  have ho1 := ho.on B1
  have HO := Lib.hid h
  clear h
  go_enter Try.func12, Try.ntmps12
  go_upto_region 1 with fail
  generalize w.alloc (.cells #[.int .i64 e, .slice A1 ss.length c1, .slice A2 os.length c2] 24) = w1 at *
  have a0 := P1.cell 0
  have a1 := P1.cell 1
  have a2 := P1.cell 2
  simp at a0 a1 a2
  go_wp2_with fail
  refine (pmay_any e _ _ ss os 8 r _ hs1 ho1 HR.out).mono ?_
  rintro _ w2 ⟨rfl, hb⟩
  have hs2 := hs1.on hb
  have P2 := P1.keep hb
  have B2 := Bt B1 hb
  clear hb a0 a1 a2 P1 hs1 ho1 B1
  cases r
  case false =>
    have hn : o = 0 ∧ n = 700 := by
      rcases HO.out with ⟨i, hm, -⟩ | h
      · have := HR.out.2 hm
        simp at this
      · exact h.2
    obtain ⟨rfl, rfl⟩ := hn
    go_wp2_with fail
    go_ret2
    exact ⟨rfl, B2⟩
  go_wp2_with fail
  refine (placeMay_any d q _ HQ.out).mono ?_
  rintro _ w3 ⟨rfl, rfl⟩
  cases q
  case false =>
    have hn : o = 0 ∧ n = 700 := by
      rcases HO.out with ⟨i, -, hm, -⟩ | h
      · have := HQ.out.2 hm
        simp at this
      · exact h.2
    obtain ⟨rfl, rfl⟩ := hn
    go_wp2_with fail
    go_ret2
    exact ⟨rfl, B2⟩
  have hm : MapOk e ss os 8 := HR.out.1 (by simp)
  have hd := HQ.out.1 (by simp)
  obtain ⟨i, hi, rfl, rfl⟩ : ∃ i, AtIs ss d i ∧ o = it os i ∧ n = 0 := by
    rcases HO.out with ⟨i, -, -, k⟩ | h
    · exact ⟨i, k⟩
    · exact absurd ⟨hm, by omega, by omega⟩ h.1
  have hm1 := hm.1
  unfold HeadOk at hm1
  have hio : i < os.length := by have := hi.1; omega
  obtain ⟨b', off', rfl, hb', hc'⟩ := h2 (by omega)
  have y0 := (B2.cell (p := ⟨b', off' + i, none⟩) hb').trans (hc' i hio)
  have HI := Lib.hid hi
  have HRI := Lib.hid hm.rising
  have H0 := Lib.hid (show it ss 0 ≤ d by omega)
  have lss : ss.length ≤ 1000 := by omega
  have a0 := P2.cell 0
  have a1 := P2.cell 1
  have a2 := P2.cell 2
  simp at a0 a1 a2
  obtain ⟨v, hv⟩ : ∃ v, it os i = v := ⟨_, rfl⟩
  rw [hv] at y0
  have HV := Lib.hid hv
  clear hm hm1 hi hd h2 hc' hv HO HR
  go_wp2_with fail
  have N1 : ∀ W, Below w2.heap.size w2 W → Calls Try.prog 32 #[.agg #[.int .i64 e, .slice A1 ss.length c1, .slice (some ⟨b', off', none⟩) os.length c2], .int .i64 d] W fun x w' => x = .returned (.int .i64 i) ∧ Below W.heap.size W w' := fun W hB => pat_any e d _ _ ss os i W (hs2.on hB) lss HRI.out HI.out H0.out
  go_region_held3 (fun w' => w'.cell? ⟨w.heap.size, 0, none⟩ = some (.int .i64 e) ∧ w'.cell? ⟨w.heap.size, 1, none⟩ = some (.slice A1 ss.length c1) ∧ w'.cell? ⟨w.heap.size, 2, none⟩ = some (.slice (some ⟨b', off', none⟩) os.length c2) ∧ w'.cell? ⟨b', off' + i, none⟩ = some (.int .i64 v))
    (first | exact ⟨a0, a1, a2, y0⟩ | exact kp4 (by assumption) (by assumption) | go_keep)
    (first
      | (go_at_call 32; (with_reducible refine Calls.mono (N1 _ (Bd B0)) ?_); rintro x wA ⟨rfl, hbA⟩))
  all_goals go_wp2_with fail
  all_goals go_ret2
  all_goals exact ⟨by rw [HV.out]; rfl, Bt (Bd B2) hbA⟩

/-- Can a change be done tn stretch i? -/
def ChangeOk (ss : List Int) (nodes kind a tn : Int) (i : Nat) : Prop := (kind = 0 ∧ a ≠ it ss i ∧ ss.length < 32) ∨ (kind = 1 ∧ 0 ≤ tn ∧ tn < nodes) ∨ (kind = 2 ∧ i + 1 < ss.length)

set_option maxRecDepth 100000 in
set_option maxHeartbeats 4000000 in
theorem changeMay_any (e nodes kind a tn : Int) (vs vo : Value) (ss : List Int) (i : Nat) (r : Bool) (w : World) (hs : RdI w w.heap.size vs ss) (hl : ss.length ≤ 1000) (hi : i < ss.length) (hk : 0 ≤ kind ∧ kind ≤ 2) (hr : r = true ↔ ChangeOk ss nodes kind a tn i) :
    Calls Try.prog 37 #[.agg #[.int .i64 e, vs, vo], .int .i64 nodes, .agg #[.int .i64 kind, .int .i64 a, .int .i64 tn], .int .i64 i] w fun x w' => x = .returned (.bool r) ∧ Below w.heap.size w w' := by
  have HR := Lib.hid hr
  clear hr
  obtain ⟨A1, c1, rfl, -, h1⟩ := id hs
  have P1 := Blk.alloc (Blk.new w 24 #[.int .i64 e, .slice A1 ss.length c1, vo]) (.cells #[.int .i64 kind, .int .i64 a, .int .i64 tn] 27)
  have P2 := Blk.new' (w.alloc (.cells #[.int .i64 e, .slice A1 ss.length c1, vo] 24)) 27 #[.int .i64 kind, .int .i64 a, .int .i64 tn] (g := w.heap.size + 1) (by simp)
  have B1 : Below w.heap.size w ((w.alloc (.cells #[.int .i64 e, .slice A1 ss.length c1, vo] 24)).alloc (.cells #[.int .i64 kind, .int .i64 a, .int .i64 tn] 27)) := Ba (Ba B0)
  go_enter Try.func37, Try.ntmps37
  go_upto_region 1 with fail
  generalize (w.alloc (.cells #[.int .i64 e, .slice A1 ss.length c1, vo] 24)).alloc (.cells #[.int .i64 kind, .int .i64 a, .int .i64 tn] 27) = w1 at *
  obtain ⟨b, off, rfl, hb, hc⟩ := h1 (by omega)
  have y0 := (B1.cell (p := ⟨b, off + i, none⟩) hb).trans (hc i hi)
  have a1 := P1.cell 1
  have b0 := P2.cell 0
  have b1 := P2.cell 1
  have b2 := P2.cell 2
  simp at a1 b0 b1 b2
  obtain ⟨s, hsi⟩ : ∃ s, it ss i = s := ⟨_, rfl⟩
  rw [hsi] at y0
  have HS := Lib.hid hsi
  clear hsi h1 hc hs
  have hcase : kind = 0 ∨ kind = 1 ∨ kind = 2 := by omega
  clear hk
  rcases hcase with rfl | rfl | rfl
  · by_cases g : a = s
    · have d : (a != s) = false := by simpa using g
      have HG := Lib.hid g
      clear g
      go_wp2_with fail
      go_quiet (fail)
      all_goals go_wp2_with fail
      all_goals go_ret
      all_goals refine ⟨ret_bool (bool_eq HR.out ?_), ⟨B1.os, B1.tape, B1.output, B1.size, B1.block⟩⟩
      all_goals simp only [ChangeOk, HS.out, HG.out]
      all_goals simp
    · have d : (a != s) = true := by simpa using g
      have HG := Lib.hid g
      clear g
      go_wp2_with fail
      go_quiet (fail)
      all_goals go_wp2_with fail
      all_goals go_ret
      all_goals refine ⟨ret_bool (bool_eq HR.out ?_), ⟨B1.os, B1.tape, B1.output, B1.size, B1.block⟩⟩
      all_goals simp only [ChangeOk, HS.out]
      all_goals simp [HG.out]
      all_goals omega
  · obtain ⟨q, HQ⟩ := has_bool (0 ≤ tn ∧ tn < nodes)
    go_wp2_with fail
    refine (isNode_any tn nodes q _ HQ.out).mono ?_
    rintro _ w3 ⟨rfl, rfl⟩
    go_wp2_with fail
    go_ret
    refine ⟨ret_bool (bool_eq HR.out ?_), B1⟩
    rw [HQ.out]
    simp [ChangeOk]
  · go_wp2_with fail
    all_goals go_ret
    all_goals refine ⟨ret_bool (bool_eq HR.out ?_), B1⟩
    all_goals simp [ChangeOk]
    all_goals omega
end Go.Proofs.Ytbgkkpfhjggbkaa.IntW
