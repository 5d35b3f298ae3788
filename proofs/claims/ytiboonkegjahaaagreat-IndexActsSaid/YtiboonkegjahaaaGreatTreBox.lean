/-
  The program's reckonings over boxes: areas, growths, wastes. Of each only this is told: it answers some number of 128 bits.
-/
import Derived.Test.YtiboonkegjahaaaGreatGeomJoin
import Derived.Test.YtiboonkegjahaaaGreatWideOwnAdd
import Derived.Deep.RegionHeld3
namespace Go.Proofs.YtiboonkegjahaaaGreat.TreW
open Go.RowKit WideW
set_option linter.all false

def W64 (n : Nat) : Prop := n < 18446744073709551616
/-- Some number of 128 bits lies in block b. -/
def WideIn (w : World) (b : Nat) : Prop := ∃ h l : Nat, W64 h ∧ W64 l ∧ Two w b (.int .u64 h) (.int .u64 l)
theorem WideIn.keep {w w' : World} {b : Nat} (hb : Below w.heap.size w w') (h : WideIn w b) : WideIn w' b := by
  obtain ⟨x, y, a, c, t⟩ := h
  exact ⟨x, y, a, c, t.keep hb⟩
/-- The call answers some number of 128 bits, and makes memory at most. -/
def WideOut (w : World) (e : Ending) (w' : World) : Prop := ∃ h l : Nat, W64 h ∧ W64 l ∧ e = .returned (.agg #[.int .u64 h, .int .u64 l]) ∧ Below w.heap.size w w'
theorem join_is {a b c d e f g h : Int} (h1 : Geom.Bx a b c d) (h2 : Geom.Bx e f g h) : joinOut a b c d e f g h (min a e, min b f, max c g, max d h, 0) := .inl ⟨h1, h2, rfl⟩
theorem join_bx {a b c d e f g h : Int} (h1 : Geom.Bx a b c d) (h2 : Geom.Bx e f g h) : Geom.Bx (min a e) (min b f) (max c g) (max d h) := by
  unfold Geom.Bx Geom.Pt at *
  omega

def sub64Entry : Array Value → Sem Value := fun args => do
  let (x, y, b) ← Extern.MathBitsCarry.three "Sub64" args
  pure (Extern.MathBitsCarry.pair ((x + Extern.MathBitsCarry.m64 - y - b) % Extern.MathBitsCarry.m64) (if x < y + b then 1 else 0))
theorem sub64_0 (x y : Nat) : ∃ p q : Nat, W64 p ∧ q ≤ 1 ∧ ∀ w : World, (callFunc 96 #[.int .u64 x, .int .u64 y, .int .u64 0]).run Tryz.prog w =
    .ok (.value (.tuple #[.int .u64 p, .int .u64 q])) w := by
  refine ⟨(x + 18446744073709551616 - y - 0) % 18446744073709551616, if x < y + 0 then 1 else 0, Nat.mod_lt _ (by decide), by split <;> omega, fun w => ?_⟩
  rw [run_callFunc_extern Tryz.func96 (by kernel_rfl) (by kernel_rfl) (by kernel_rfl) (e := sub64Entry) (by kernel_rfl)]
  rfl

theorem u64_nat (x : Int) : ∃ n : Nat, W64 n ∧ IntKind.u64.wrap x = n := by
  rw [IntKind.wrap_u64]
  refine ⟨(x % 18446744073709551616).toNat, ?_, by omega⟩
  unfold W64
  omega
set_option maxHeartbeats 1000000 in
theorem minus_any (a b c d : Nat) (w : World) :
    Calls Tryz.prog 83 #[.agg #[.int .u64 a, .int .u64 b], .agg #[.int .u64 c, .int .u64 d]] w (WideOut w) := by
  obtain ⟨p, q, hp, hq, hs⟩ := sub64_0 b d
  go_enter Tryz.func83, Tryz.ntmps83
  go_wp2_with (first | simp only [hs])
  obtain ⟨n, hn, en⟩ := u64_nat (IntKind.u64.wrap (↑a - ↑c) - ↑q)
  rw [en]
  refine bodyPost_ret (v := .agg #[.int .u64 n, .int .u64 p]) (by simp [results, Tryz.results83, go_sem]) rfl ⟨n, p, hn, hp, rfl, ?_⟩
  exact Ba (Ba (Ba B0))
set_option maxHeartbeats 1000000 in
theorem area_any (a b c d : Int) (w : World) (hB : Geom.Bx a b c d) :
    Calls Tryz.prog 58 #[.agg #[.int .i64 a, .int .i64 b, .int .i64 c, .int .i64 d]] w (WideOut w) := by
  obtain ⟨⟨a1, a2, b1, b2⟩, ⟨c1, c2, d1, d2⟩, h1, h2⟩ := hB
  obtain ⟨n, hn⟩ : ∃ n : Nat, c - a + 1 = n := ⟨(c - a + 1).toNat, by omega⟩
  obtain ⟨m, hm⟩ : ∃ m : Nat, d - b + 1 = m := ⟨(d - b + 1).toNat, by omega⟩
  have ln : n < 18446744073709551616 := by omega
  have lm : m < 18446744073709551616 := by omega
  go_enter Tryz.func58, Tryz.ntmps58
  go_wp2_with fail
  refine (mul_any n m _ ln lm).mono ?_
  have hp : W64 (n * m / 18446744073709551616) := by
    have h1 : n ≤ 4294967296 := by omega
    have h2 : m ≤ 4294967296 := by omega
    have := Nat.mul_le_mul h1 h2
    unfold W64
    omega
  have hq : W64 (n * m % 18446744073709551616) := Nat.mod_lt _ (by decide)
  generalize n * m / 18446744073709551616 = p at *
  generalize n * m % 18446744073709551616 = q at *
  rintro e w1 ⟨rfl, hb1⟩
  have o := Two.keep hb1 (Two.new' (w.alloc (.cells #[.int .i64 a, .int .i64 b, .int .i64 c, .int .i64 d] 30)) (.int .u64 0) (.int .u64 0) 87 (b := w.heap.size + 1) (by simp))
  have fr := Free.keep hb1 (Free.new (w.alloc (.cells #[.int .i64 a, .int .i64 b, .int .i64 c, .int .i64 d] 30)) #[.int .u64 0, .int .u64 0] 87 (b := w.heap.size + 1) (by simp))
  have B1 := Bt (Ba (Ba B0)) hb1
  clear hb1 hn hm ln lm
  obtain ⟨z, o0, o1⟩ := o
  have s0 := fr.2 0; have s1 := fr.2 1
  clear fr
  go_wp2_with fail
  refine bodyPost_ret (v := .agg #[.int .u64 p, .int .u64 q]) (by simp [results, Tryz.results58, go_sem, o0, o1]) rfl ⟨p, q, hp, hq, rfl, ?_⟩
  exact Bs (Bs B1 (by simp <;> omega)) (by simp <;> omega)
set_option maxHeartbeats 1000000 in
theorem join2_any (a b c d e f g h : Int) (w : World) (h1 : Geom.Bx a b c d) (h2 : Geom.Bx e f g h) :
    Calls Tryz.prog 77 #[.agg #[.int .i64 a, .int .i64 b, .int .i64 c, .int .i64 d], .agg #[.int .i64 e, .int .i64 f, .int .i64 g, .int .i64 h]] w fun E w' => E = .returned (.agg #[.int .i64 (min a e), .int .i64 (min b f), .int .i64 (max c g), .int .i64 (max d h)]) ∧ Below w.heap.size w w' := by
  have J := join_is h1 h2
  generalize min a e = x0 at *
  generalize min b f = y0 at *
  generalize max c g = x1 at *
  generalize max d h = y1 at *
  clear h1 h2
  go_enter Tryz.func77, Tryz.ntmps77
  go_wp2_with fail
  refine (join_any a b c d e f g h x0 y0 x1 y1 0 _ J).mono ?_
  rintro e w1 ⟨rfl, hb1⟩
  have o := Four.keep hb1 (Four.new' ((w.alloc (.cells #[.int .i64 a, .int .i64 b, .int .i64 c, .int .i64 d] 30)).alloc (.cells #[.int .i64 e, .int .i64 f, .int .i64 g, .int .i64 h] 30)) (.int .i64 0) (.int .i64 0) (.int .i64 0) (.int .i64 0) 30 (b := w.heap.size + 1 + 1) (by simp))
  have fr := Free.keep hb1 (Free.new ((w.alloc (.cells #[.int .i64 a, .int .i64 b, .int .i64 c, .int .i64 d] 30)).alloc (.cells #[.int .i64 e, .int .i64 f, .int .i64 g, .int .i64 h] 30)) #[.int .i64 0, .int .i64 0, .int .i64 0, .int .i64 0] 30 (b := w.heap.size + 1 + 1) (by simp))
  have B1 := Bt (Ba (Ba (Ba B0))) hb1
  clear hb1 J
  obtain ⟨z, o0, o1, o2, o3⟩ := o
  have s0 := fr.2 0; have s1 := fr.2 1; have s2 := fr.2 2; have s3 := fr.2 3
  clear fr
  go_wp2_with fail
  refine bodyPost_ret (v := .agg #[.int .i64 x0, .int .i64 y0, .int .i64 x1, .int .i64 y1]) (by simp [results, Tryz.results77, go_sem, z, o0, o1, o2, o3]) rfl ⟨rfl, ?_⟩
  exact Ba (Bs (Bs (Bs (Bs B1 (by simp <;> omega)) (by simp <;> omega)) (by simp <;> omega)) (by simp <;> omega))

/-- The number in a cell. -/
def rdu (w : World) (b o : Nat) : Int := match w.cell? ⟨b, o, none⟩ with | some (.int _ n) => n | _ => 0
theorem rdu_is {w : World} {b o : Nat} {n : Int} (h : w.cell? ⟨b, o, none⟩ = some (.int .u64 n)) : rdu w b o = n := by unfold rdu; rw [h]
def U64 (x : Int) : Prop := 0 ≤ x ∧ x < 18446744073709551616
theorem W64.u {n : Nat} (h : W64 n) : U64 (n : Int) := by unfold W64 at h; unfold U64; omega
theorem U64.nat {x : Int} (h : U64 x) : ∃ n : Nat, x = n ∧ W64 n := ⟨x.toNat, by unfold U64 at h; omega, by unfold U64 at h; unfold W64; omega⟩
/-- Block b3 has some number of 128 bits, to be written. -/
def Gw (w' : World) (b : Nat) : Prop := (w'.cell? ⟨b, 0, none⟩ = some (.int .u64 (rdu w' b 0)) ∧ w'.cell? ⟨b, 1, none⟩ = some (.int .u64 (rdu w' b 1))) ∧ (w'.frozen? ⟨b, 0, none⟩ = false ∧ w'.frozen? ⟨b, 1, none⟩ = false)
theorem rdu_keep {w w' : World} {b o : Nat} (hb : Below w.heap.size w w') (h : b < w.heap.size) : rdu w' b o = rdu w b o := by
  unfold rdu; rw [hb.cell (p := ⟨b, o, none⟩) h]
/-- What a reckoning holds of its result's block. -/
def Res (w w' : World) (b : Nat) : Prop := U64 (rdu w' b 0) ∧ U64 (rdu w' b 1) ∧ Below w.heap.size w w'
theorem Res.new {w : World} {W : World} {b : Nat} (h : Below w.heap.size w W) (hb : b = W.heap.size) : Res w (W.alloc (.cells #[.int .u64 0, .int .u64 0] 87)) b := by
  have T := Two.new' W (.int .u64 0) (.int .u64 0) 87 hb
  refine ⟨?_, ?_, Ba h⟩
  · rw [rdu_is T.2.1]; unfold U64; omega
  · rw [rdu_is T.2.2]; unfold U64; omega
theorem gcells {w w' : World} {a0 a1 a2 a3 : Addr} {v0 v1 v2 v3 : Value} {b : Nat} (hb : Below w'.heap.size w' w) (hh : w'.cell? a0 = some v0 ∧ w'.cell? a1 = some v1 ∧ w'.cell? a2 = some v2 ∧ w'.cell? a3 = some v3) :
    w.cell? a0 = some v0 ∧ w.cell? a1 = some v1 ∧ w.cell? a2 = some v2 ∧ w.cell? a3 = some v3 := kp4 hb hh
theorem gw_keep {w w' : World} {b : Nat} (hb : Below w.heap.size w w') (h : (w.cell? ⟨b, 0, none⟩ = some (.int .u64 (rdu w b 0)) ∧ w.cell? ⟨b, 1, none⟩ = some (.int .u64 (rdu w b 1))) ∧ (w.frozen? ⟨b, 0, none⟩ = false ∧ w.frozen? ⟨b, 1, none⟩ = false)) :
    (w'.cell? ⟨b, 0, none⟩ = some (.int .u64 (rdu w' b 0)) ∧ w'.cell? ⟨b, 1, none⟩ = some (.int .u64 (rdu w' b 1))) ∧ (w'.frozen? ⟨b, 0, none⟩ = false ∧ w'.frozen? ⟨b, 1, none⟩ = false) := by
  have hl : b < w.heap.size := World.block_lt_of_cell? w _ h.1.1
  refine ⟨⟨?_, ?_⟩, ?_, ?_⟩
  · rw [rdu_keep hb hl]; exact cell_keep hb h.1.1
  · rw [rdu_keep hb hl]; exact cell_keep hb h.1.2
  · rw [hb.frozen (p := ⟨b, 0, none⟩) hl]; exact h.2.1
  · rw [hb.frozen (p := ⟨b, 1, none⟩) hl]; exact h.2.2
theorem res_keep {w0 w w' : World} {b : Nat} (hb : Below w.heap.size w w') (hl : b < w.heap.size) (h : Res w0 w b) : Res w0 w' b := by
  refine ⟨?_, ?_, Bt h.2.2 hb⟩
  · rw [rdu_keep hb hl]; exact h.1
  · rw [rdu_keep hb hl]; exact h.2.1
section
variable {w0 w w' : World} {b b2 b3 : Nat} {x y z u x2 y2 z2 u2 : Value}
theorem bxs_keep (hb : Below w.heap.size w w') (h : (w.cell? ⟨b, 0, none⟩ = some x ∧ w.cell? ⟨b, 1, none⟩ = some y ∧ w.cell? ⟨b, 2, none⟩ = some z ∧ w.cell? ⟨b, 3, none⟩ = some u) ∧ (w.cell? ⟨b2, 0, none⟩ = some x2 ∧ w.cell? ⟨b2, 1, none⟩ = some y2 ∧ w.cell? ⟨b2, 2, none⟩ = some z2 ∧ w.cell? ⟨b2, 3, none⟩ = some u2) ∧
    ((w.cell? ⟨b3, 0, none⟩ = some (.int .u64 (rdu w b3 0)) ∧ w.cell? ⟨b3, 1, none⟩ = some (.int .u64 (rdu w b3 1))) ∧ (w.frozen? ⟨b3, 0, none⟩ = false ∧ w.frozen? ⟨b3, 1, none⟩ = false)) ∧ Res w0 w b3) :
    (w'.cell? ⟨b, 0, none⟩ = some x ∧ w'.cell? ⟨b, 1, none⟩ = some y ∧ w'.cell? ⟨b, 2, none⟩ = some z ∧ w'.cell? ⟨b, 3, none⟩ = some u) ∧ (w'.cell? ⟨b2, 0, none⟩ = some x2 ∧ w'.cell? ⟨b2, 1, none⟩ = some y2 ∧ w'.cell? ⟨b2, 2, none⟩ = some z2 ∧ w'.cell? ⟨b2, 3, none⟩ = some u2) ∧
    ((w'.cell? ⟨b3, 0, none⟩ = some (.int .u64 (rdu w' b3 0)) ∧ w'.cell? ⟨b3, 1, none⟩ = some (.int .u64 (rdu w' b3 1))) ∧ (w'.frozen? ⟨b3, 0, none⟩ = false ∧ w'.frozen? ⟨b3, 1, none⟩ = false)) ∧ Res w0 w' b3 :=
  ⟨kp4 hb h.1, kp4 hb h.2.1, gw_keep hb h.2.2.1, res_keep hb (World.block_lt_of_cell? w _ h.2.2.1.1.1) h.2.2.2⟩
theorem bxs_set (h : (w.cell? ⟨b, 0, none⟩ = some x ∧ w.cell? ⟨b, 1, none⟩ = some y ∧ w.cell? ⟨b, 2, none⟩ = some z ∧ w.cell? ⟨b, 3, none⟩ = some u) ∧ (w.cell? ⟨b2, 0, none⟩ = some x2 ∧ w.cell? ⟨b2, 1, none⟩ = some y2 ∧ w.cell? ⟨b2, 2, none⟩ = some z2 ∧ w.cell? ⟨b2, 3, none⟩ = some u2) ∧
    ((w.cell? ⟨b3, 0, none⟩ = some (.int .u64 (rdu w b3 0)) ∧ w.cell? ⟨b3, 1, none⟩ = some (.int .u64 (rdu w b3 1))) ∧ (w.frozen? ⟨b3, 0, none⟩ = false ∧ w.frozen? ⟨b3, 1, none⟩ = false)) ∧ Res w0 w b3) (hb : b ≠ b3) (hb2 : b2 ≠ b3) (h0 : w0.heap.size ≤ b3) {n m : Nat} (hn : W64 n) (hm : W64 m)
    (e : w' = (w.setCell ⟨b3, 0, none⟩ (.int .u64 n)).setCell ⟨b3, 1, none⟩ (.int .u64 m)) :
    (w'.cell? ⟨b, 0, none⟩ = some x ∧ w'.cell? ⟨b, 1, none⟩ = some y ∧ w'.cell? ⟨b, 2, none⟩ = some z ∧ w'.cell? ⟨b, 3, none⟩ = some u) ∧ (w'.cell? ⟨b2, 0, none⟩ = some x2 ∧ w'.cell? ⟨b2, 1, none⟩ = some y2 ∧ w'.cell? ⟨b2, 2, none⟩ = some z2 ∧ w'.cell? ⟨b2, 3, none⟩ = some u2) ∧
    ((w'.cell? ⟨b3, 0, none⟩ = some (.int .u64 (rdu w' b3 0)) ∧ w'.cell? ⟨b3, 1, none⟩ = some (.int .u64 (rdu w' b3 1))) ∧ (w'.frozen? ⟨b3, 0, none⟩ = false ∧ w'.frozen? ⟨b3, 1, none⟩ = false)) ∧ Res w0 w' b3 := by
  subst e
  obtain ⟨⟨p1, p2, p3, p4⟩, ⟨q1, q2, q3, q4⟩, ⟨⟨r1, r2⟩, r3, r4⟩, r5⟩ := h
  have hb' := Ne.symm hb
  have hb2' := Ne.symm hb2
  have c0 : ((w.setCell ⟨b3, 0, none⟩ (.int .u64 n)).setCell ⟨b3, 1, none⟩ (.int .u64 m)).cell? ⟨b3, 0, none⟩ = some (.int .u64 (n : Int)) := by
    simp [go_sem, r1]
  have c1 : ((w.setCell ⟨b3, 0, none⟩ (.int .u64 n)).setCell ⟨b3, 1, none⟩ (.int .u64 m)).cell? ⟨b3, 1, none⟩ = some (.int .u64 (m : Int)) :=
    by simp [go_sem, r2]
  have fr : ∀ g o : Nat, g ≠ b3 → ((w.setCell ⟨b3, 0, none⟩ (.int .u64 n)).setCell ⟨b3, 1, none⟩ (.int .u64 m)).cell? ⟨g, o, none⟩ = w.cell? ⟨g, o, none⟩ := fun g o hg => by
    rw [World.cell?_setCell_far _ _ _ _ (by exact Ne.symm hg), World.cell?_setCell_far _ _ _ _ (by exact Ne.symm hg)]
  refine ⟨⟨(fr _ _ hb).trans p1, (fr _ _ hb).trans p2, (fr _ _ hb).trans p3, (fr _ _ hb).trans p4⟩, ⟨(fr _ _ hb2).trans q1, (fr _ _ hb2).trans q2, (fr _ _ hb2).trans q3, (fr _ _ hb2).trans q4⟩, ⟨⟨?_, ?_⟩, ?_, ?_⟩, ?_, ?_, ?_⟩
  · rw [rdu_is c0]; exact c0
  · rw [rdu_is c1]; exact c1
  · simpa using r3
  · simpa using r4
  · rw [rdu_is c0]; exact hn.u
  · rw [rdu_is c1]; exact hm.u
  · exact Bs (Bs r5.2.2 (by simp <;> omega)) (by simp <;> omega)
theorem wst_keep {g : Nat} {x3 y3 : Value} (hb : Below w.heap.size w w') (h : ((w.cell? ⟨b, 0, none⟩ = some x ∧ w.cell? ⟨b, 1, none⟩ = some y ∧ w.cell? ⟨b, 2, none⟩ = some z ∧ w.cell? ⟨b, 3, none⟩ = some u) ∧ (w.cell? ⟨b2, 0, none⟩ = some x2 ∧ w.cell? ⟨b2, 1, none⟩ = some y2 ∧ w.cell? ⟨b2, 2, none⟩ = some z2 ∧ w.cell? ⟨b2, 3, none⟩ = some u2) ∧
    ((w.cell? ⟨b3, 0, none⟩ = some (.int .u64 (rdu w b3 0)) ∧ w.cell? ⟨b3, 1, none⟩ = some (.int .u64 (rdu w b3 1))) ∧ (w.frozen? ⟨b3, 0, none⟩ = false ∧ w.frozen? ⟨b3, 1, none⟩ = false)) ∧ Res w0 w b3) ∧ (w.cell? ⟨g, 0, none⟩ = some x3 ∧ w.cell? ⟨g, 1, none⟩ = some y3)) :
    ((w'.cell? ⟨b, 0, none⟩ = some x ∧ w'.cell? ⟨b, 1, none⟩ = some y ∧ w'.cell? ⟨b, 2, none⟩ = some z ∧ w'.cell? ⟨b, 3, none⟩ = some u) ∧ (w'.cell? ⟨b2, 0, none⟩ = some x2 ∧ w'.cell? ⟨b2, 1, none⟩ = some y2 ∧ w'.cell? ⟨b2, 2, none⟩ = some z2 ∧ w'.cell? ⟨b2, 3, none⟩ = some u2) ∧
    ((w'.cell? ⟨b3, 0, none⟩ = some (.int .u64 (rdu w' b3 0)) ∧ w'.cell? ⟨b3, 1, none⟩ = some (.int .u64 (rdu w' b3 1))) ∧ (w'.frozen? ⟨b3, 0, none⟩ = false ∧ w'.frozen? ⟨b3, 1, none⟩ = false)) ∧ Res w0 w' b3) ∧ (w'.cell? ⟨g, 0, none⟩ = some x3 ∧ w'.cell? ⟨g, 1, none⟩ = some y3) := ⟨bxs_keep hb h.1, kp2 hb h.2⟩
theorem wst_set {g : Nat} {x3 y3 : Value} (h : ((w.cell? ⟨b, 0, none⟩ = some x ∧ w.cell? ⟨b, 1, none⟩ = some y ∧ w.cell? ⟨b, 2, none⟩ = some z ∧ w.cell? ⟨b, 3, none⟩ = some u) ∧ (w.cell? ⟨b2, 0, none⟩ = some x2 ∧ w.cell? ⟨b2, 1, none⟩ = some y2 ∧ w.cell? ⟨b2, 2, none⟩ = some z2 ∧ w.cell? ⟨b2, 3, none⟩ = some u2) ∧
    ((w.cell? ⟨b3, 0, none⟩ = some (.int .u64 (rdu w b3 0)) ∧ w.cell? ⟨b3, 1, none⟩ = some (.int .u64 (rdu w b3 1))) ∧ (w.frozen? ⟨b3, 0, none⟩ = false ∧ w.frozen? ⟨b3, 1, none⟩ = false)) ∧ Res w0 w b3) ∧ (w.cell? ⟨g, 0, none⟩ = some x3 ∧ w.cell? ⟨g, 1, none⟩ = some y3)) (hb : b ≠ b3) (hb2 : b2 ≠ b3) (h0 : w0.heap.size ≤ b3) (hg : g ≠ b3) {n m : Nat} (hn : W64 n) (hm : W64 m)
    (e : w' = (w.setCell ⟨b3, 0, none⟩ (.int .u64 n)).setCell ⟨b3, 1, none⟩ (.int .u64 m)) :
    ((w'.cell? ⟨b, 0, none⟩ = some x ∧ w'.cell? ⟨b, 1, none⟩ = some y ∧ w'.cell? ⟨b, 2, none⟩ = some z ∧ w'.cell? ⟨b, 3, none⟩ = some u) ∧ (w'.cell? ⟨b2, 0, none⟩ = some x2 ∧ w'.cell? ⟨b2, 1, none⟩ = some y2 ∧ w'.cell? ⟨b2, 2, none⟩ = some z2 ∧ w'.cell? ⟨b2, 3, none⟩ = some u2) ∧
    ((w'.cell? ⟨b3, 0, none⟩ = some (.int .u64 (rdu w' b3 0)) ∧ w'.cell? ⟨b3, 1, none⟩ = some (.int .u64 (rdu w' b3 1))) ∧ (w'.frozen? ⟨b3, 0, none⟩ = false ∧ w'.frozen? ⟨b3, 1, none⟩ = false)) ∧ Res w0 w' b3) ∧ (w'.cell? ⟨g, 0, none⟩ = some x3 ∧ w'.cell? ⟨g, 1, none⟩ = some y3) := by
  refine ⟨bxs_set h.1 hb hb2 h0 hn hm e, ?_⟩
  subst e
  have fr : ∀ o : Nat, ((w.setCell ⟨b3, 0, none⟩ (.int .u64 n)).setCell ⟨b3, 1, none⟩ (.int .u64 m)).cell? ⟨g, o, none⟩ = w.cell? ⟨g, o, none⟩ := fun o => by
    rw [World.cell?_setCell_far _ _ _ _ (by exact Ne.symm hg), World.cell?_setCell_far _ _ _ _ (by exact Ne.symm hg)]
  exact ⟨(fr _).trans h.2.1, (fr _).trans h.2.2⟩
theorem addOut_some (a b c d : Nat) : ∃ (x y : Nat) (k : Bool), W64 x ∧ W64 y ∧ Wide.addOut a b c d = .tuple #[.agg #[.int .u64 x, .int .u64 y], .bool k] := by
  unfold Wide.addOut
  split
  · rename_i h
    exact ⟨_, _, _, by unfold W64; exact Nat.div_lt_of_lt_mul h, Nat.mod_lt _ (by decide), rfl⟩
  · exact ⟨0, 0, _, by unfold W64; decide, by unfold W64; decide, rfl⟩
end
set_option maxHeartbeats 4000000 in
theorem growth_any (a b c d e f g h : Int) (w : World) (h1 : Geom.Bx a b c d) (h2 : Geom.Bx e f g h) :
    Calls Tryz.prog 57 #[.agg #[.int .i64 a, .int .i64 b, .int .i64 c, .int .i64 d], .agg #[.int .i64 e, .int .i64 f, .int .i64 g, .int .i64 h]] w (WideOut w) := by
  have hj := join_bx h1 h2
  obtain ⟨p, hp⟩ : ∃ p, p = min a e := ⟨_, rfl⟩
  obtain ⟨q, hq⟩ : ∃ q, q = min b f := ⟨_, rfl⟩
  obtain ⟨r, hr⟩ : ∃ r, r = max c g := ⟨_, rfl⟩
  obtain ⟨s, hs⟩ : ∃ s, s = max d h := ⟨_, rfl⟩
  have J : ∀ W, Calls Tryz.prog 77 #[.agg #[.int .i64 a, .int .i64 b, .int .i64 c, .int .i64 d], .agg #[.int .i64 e, .int .i64 f, .int .i64 g, .int .i64 h]] W fun E w' => E = .returned (.agg #[.int .i64 p, .int .i64 q, .int .i64 r, .int .i64 s]) ∧ Below W.heap.size W w' := fun W => by
    rw [hp, hq, hr, hs]; exact join2_any _ _ _ _ _ _ _ _ _ h1 h2
  rw [← hp, ← hq, ← hr, ← hs] at hj
  have H1 := Lib.hid h1
  have H3 := Lib.hid hj
  clear h1 h2 hj hp hq hr hs
  have F1 : Four (((w.alloc (.cells #[.int .i64 a, .int .i64 b, .int .i64 c, .int .i64 d] 30)).alloc (.cells #[.int .i64 e, .int .i64 f, .int .i64 g, .int .i64 h] 30)).alloc (.cells #[.int .u64 0, .int .u64 0] 87)) w.heap.size (.int .i64 a) (.int .i64 b) (.int .i64 c) (.int .i64 d) := ((Four.new _ _ _ _ _ _).past _).past _
  have F2 : Four (((w.alloc (.cells #[.int .i64 a, .int .i64 b, .int .i64 c, .int .i64 d] 30)).alloc (.cells #[.int .i64 e, .int .i64 f, .int .i64 g, .int .i64 h] 30)).alloc (.cells #[.int .u64 0, .int .u64 0] 87)) (w.heap.size + 1) (.int .i64 e) (.int .i64 f) (.int .i64 g) (.int .i64 h) := (Four.new' _ _ _ _ _ _ (by simp)).past _
  have R3 : Res w (((w.alloc (.cells #[.int .i64 a, .int .i64 b, .int .i64 c, .int .i64 d] 30)).alloc (.cells #[.int .i64 e, .int .i64 f, .int .i64 g, .int .i64 h] 30)).alloc (.cells #[.int .u64 0, .int .u64 0] 87)) (w.heap.size + 1 + 1) := Res.new (Ba (Ba B0)) (by simp)
  have G3 : Gw (((w.alloc (.cells #[.int .i64 a, .int .i64 b, .int .i64 c, .int .i64 d] 30)).alloc (.cells #[.int .i64 e, .int .i64 f, .int .i64 g, .int .i64 h] 30)).alloc (.cells #[.int .u64 0, .int .u64 0] 87)) (w.heap.size + 1 + 1) := by
    have T := Two.new' ((w.alloc (.cells #[.int .i64 a, .int .i64 b, .int .i64 c, .int .i64 d] 30)).alloc (.cells #[.int .i64 e, .int .i64 f, .int .i64 g, .int .i64 h] 30)) (.int .u64 0) (.int .u64 0) 87 (b := w.heap.size + 1 + 1) (by simp)
    have fr := Free.new ((w.alloc (.cells #[.int .i64 a, .int .i64 b, .int .i64 c, .int .i64 d] 30)).alloc (.cells #[.int .i64 e, .int .i64 f, .int .i64 g, .int .i64 h] 30)) #[.int .u64 0, .int .u64 0] 87 (b := w.heap.size + 1 + 1) (by simp)
    exact ⟨⟨by rw [rdu_is T.2.1]; exact T.2.1, by rw [rdu_is T.2.2]; exact T.2.2⟩, fr.2 0, fr.2 1⟩
  go_enter Tryz.func57, Tryz.ntmps57
  go_wp2_with fail
  generalize (((w.alloc (.cells #[.int .i64 a, .int .i64 b, .int .i64 c, .int .i64 d] 30)).alloc (.cells #[.int .i64 e, .int .i64 f, .int .i64 g, .int .i64 h] 30)).alloc (.cells #[.int .u64 0, .int .u64 0] 87)) = W at *
  go_region_held3 (fun w' => (w'.cell? ⟨w.heap.size, 0, none⟩ = some (.int .i64 a) ∧ w'.cell? ⟨w.heap.size, 1, none⟩ = some (.int .i64 b) ∧ w'.cell? ⟨w.heap.size, 2, none⟩ = some (.int .i64 c) ∧ w'.cell? ⟨w.heap.size, 3, none⟩ = some (.int .i64 d)) ∧
      (w'.cell? ⟨w.heap.size + 1, 0, none⟩ = some (.int .i64 e) ∧ w'.cell? ⟨w.heap.size + 1, 1, none⟩ = some (.int .i64 f) ∧ w'.cell? ⟨w.heap.size + 1, 2, none⟩ = some (.int .i64 g) ∧ w'.cell? ⟨w.heap.size + 1, 3, none⟩ = some (.int .i64 h)) ∧
      ((w'.cell? ⟨w.heap.size + 1 + 1, 0, none⟩ = some (.int .u64 (rdu w' (w.heap.size + 1 + 1) 0)) ∧ w'.cell? ⟨w.heap.size + 1 + 1, 1, none⟩ = some (.int .u64 (rdu w' (w.heap.size + 1 + 1) 1))) ∧ (w'.frozen? ⟨w.heap.size + 1 + 1, 0, none⟩ = false ∧ w'.frozen? ⟨w.heap.size + 1 + 1, 1, none⟩ = false)) ∧ Res w w' (w.heap.size + 1 + 1))
    (first | exact bxs_keep (Bd B0) ⟨F1.2, F2.2, G3, R3⟩ | assumption | exact bxs_keep (by assumption) (by assumption) | exact bxs_set (by assumption) (by omega) (by omega) (by omega) (by assumption) (by assumption) rfl)
    (first
      | (go_at_call 77; (with_reducible refine (J _).mono ?_); rintro _ wA ⟨rfl, hbA⟩)
      | (go_at_call 58; (with_reducible refine (area_any _ _ _ _ _ H1.out).mono ?_); rintro _ wB ⟨hB, lB, hB1, hB2, rfl, hbB⟩)
      | (go_at_call 58; (with_reducible refine (area_any _ _ _ _ _ H3.out).mono ?_); rintro _ wC ⟨hC, lC, hC1, hC2, rfl, hbC⟩)
      | (go_at_call 83; (with_reducible refine (minus_any _ _ _ _ _).mono ?_); rintro _ wD ⟨hD, lD, hD1, hD2, rfl, hbD⟩))
  all_goals rename_i hh
  all_goals generalize World.setCell (World.setCell _ _ _) _ _ = wE at *
  all_goals obtain ⟨-, -, ⟨⟨o0, o1⟩, -⟩, r⟩ := hh
  all_goals obtain ⟨n, hn⟩ := r.1.nat
  all_goals obtain ⟨m, hm⟩ := r.2.1.nat
  all_goals have B := r.2.2
  all_goals rw [hn.1] at o0
  all_goals rw [hm.1] at o1
  all_goals have N := Lib.hid hn.2
  all_goals have M := Lib.hid hm.2
  all_goals clear hn hm r
  all_goals go_wp2_with fail
  all_goals exact bodyPost_ret (v := .agg #[.int .u64 n, .int .u64 m]) (by simp [results, Tryz.results57, go_sem, o0, o1]) rfl ⟨n, m, N.out, M.out, rfl, B⟩
set_option maxHeartbeats 4000000 in
theorem waste_any (a b c d e f g h : Int) (w : World) (h1 : Geom.Bx a b c d) (h2 : Geom.Bx e f g h) :
    Calls Tryz.prog 105 #[.agg #[.int .i64 a, .int .i64 b, .int .i64 c, .int .i64 d], .agg #[.int .i64 e, .int .i64 f, .int .i64 g, .int .i64 h]] w (WideOut w) := by
  have hj := join_bx h1 h2
  obtain ⟨p, hp⟩ : ∃ p, p = min a e := ⟨_, rfl⟩
  obtain ⟨q, hq⟩ : ∃ q, q = min b f := ⟨_, rfl⟩
  obtain ⟨r, hr⟩ : ∃ r, r = max c g := ⟨_, rfl⟩
  obtain ⟨s, hs⟩ : ∃ s, s = max d h := ⟨_, rfl⟩
  have J : ∀ W, Calls Tryz.prog 77 #[.agg #[.int .i64 a, .int .i64 b, .int .i64 c, .int .i64 d], .agg #[.int .i64 e, .int .i64 f, .int .i64 g, .int .i64 h]] W fun E w' => E = .returned (.agg #[.int .i64 p, .int .i64 q, .int .i64 r, .int .i64 s]) ∧ Below W.heap.size W w' := fun W => by
    rw [hp, hq, hr, hs]; exact join2_any _ _ _ _ _ _ _ _ _ h1 h2
  rw [← hp, ← hq, ← hr, ← hs] at hj
  have H1 := Lib.hid h1
  have H2 := Lib.hid h2
  have H3 := Lib.hid hj
  clear h1 h2 hj hp hq hr hs
  have F1 : Four (((w.alloc (.cells #[.int .i64 a, .int .i64 b, .int .i64 c, .int .i64 d] 30)).alloc (.cells #[.int .i64 e, .int .i64 f, .int .i64 g, .int .i64 h] 30)).alloc (.cells #[.int .u64 0, .int .u64 0] 87)) w.heap.size (.int .i64 a) (.int .i64 b) (.int .i64 c) (.int .i64 d) := ((Four.new _ _ _ _ _ _).past _).past _
  have F2 : Four (((w.alloc (.cells #[.int .i64 a, .int .i64 b, .int .i64 c, .int .i64 d] 30)).alloc (.cells #[.int .i64 e, .int .i64 f, .int .i64 g, .int .i64 h] 30)).alloc (.cells #[.int .u64 0, .int .u64 0] 87)) (w.heap.size + 1) (.int .i64 e) (.int .i64 f) (.int .i64 g) (.int .i64 h) := (Four.new' _ _ _ _ _ _ (by simp)).past _
  have R3 : Res w (((w.alloc (.cells #[.int .i64 a, .int .i64 b, .int .i64 c, .int .i64 d] 30)).alloc (.cells #[.int .i64 e, .int .i64 f, .int .i64 g, .int .i64 h] 30)).alloc (.cells #[.int .u64 0, .int .u64 0] 87)) (w.heap.size + 1 + 1) := Res.new (Ba (Ba B0)) (by simp)
  have G3 : Gw (((w.alloc (.cells #[.int .i64 a, .int .i64 b, .int .i64 c, .int .i64 d] 30)).alloc (.cells #[.int .i64 e, .int .i64 f, .int .i64 g, .int .i64 h] 30)).alloc (.cells #[.int .u64 0, .int .u64 0] 87)) (w.heap.size + 1 + 1) := by
    have T := Two.new' ((w.alloc (.cells #[.int .i64 a, .int .i64 b, .int .i64 c, .int .i64 d] 30)).alloc (.cells #[.int .i64 e, .int .i64 f, .int .i64 g, .int .i64 h] 30)) (.int .u64 0) (.int .u64 0) 87 (b := w.heap.size + 1 + 1) (by simp)
    have fr := Free.new ((w.alloc (.cells #[.int .i64 a, .int .i64 b, .int .i64 c, .int .i64 d] 30)).alloc (.cells #[.int .i64 e, .int .i64 f, .int .i64 g, .int .i64 h] 30)) #[.int .u64 0, .int .u64 0] 87 (b := w.heap.size + 1 + 1) (by simp)
    exact ⟨⟨by rw [rdu_is T.2.1]; exact T.2.1, by rw [rdu_is T.2.2]; exact T.2.2⟩, fr.2 0, fr.2 1⟩
  go_enter Tryz.func105, Tryz.ntmps105
  go_wp2_with fail
  generalize (((w.alloc (.cells #[.int .i64 a, .int .i64 b, .int .i64 c, .int .i64 d] 30)).alloc (.cells #[.int .i64 e, .int .i64 f, .int .i64 g, .int .i64 h] 30)).alloc (.cells #[.int .u64 0, .int .u64 0] 87)) = W at *
  have B3 := R3.2.2
  have L3 : w.heap.size + 1 + 1 < W.heap.size := World.block_lt_of_cell? W _ G3.1.1
  go_wp2_with fail
  refine (J _).mono ?_
  rintro _ w1 ⟨rfl, hb1⟩
  go_wp2_with fail
  refine (area_any _ _ _ _ _ H3.out).mono ?_
  rintro _ w2 ⟨x1, y1, hx1, hy1, rfl, hb2⟩
  go_wp2_with fail
  refine (add_any x1 y1 2 0 _ hx1 hy1 (by decide) (by decide)).mono ?_
  obtain ⟨x2, y2, k2, hx2, hy2, e2⟩ := addOut_some x1 y1 2 0
  rw [e2]
  clear e2
  rintro _ w3 ⟨rfl, hb3⟩
  have HB := Bt (Bt hb1 hb2) hb3
  have F3 := Two.new w3 (.int .u64 x2) (.int .u64 y2) 87
  have HS := bxs_keep (w' := w3.alloc (.cells #[.int .u64 x2, .int .u64 y2] 87)) (Ba HB) ⟨F1.2, F2.2, G3, R3⟩
  have L4 : w.heap.size + 1 + 1 < w3.heap.size := by have := HB.size; omega
  clear HB hb1 hb2 hb3 F1 F2 G3 R3 B3
  go_wp2_with fail
  generalize w3.alloc (.cells #[.int .u64 x2, .int .u64 y2] 87) = w4 at *
  generalize w3.heap.size = g3 at *
  go_region_held3 (fun w' => ((w'.cell? ⟨w.heap.size, 0, none⟩ = some (.int .i64 a) ∧ w'.cell? ⟨w.heap.size, 1, none⟩ = some (.int .i64 b) ∧ w'.cell? ⟨w.heap.size, 2, none⟩ = some (.int .i64 c) ∧ w'.cell? ⟨w.heap.size, 3, none⟩ = some (.int .i64 d)) ∧
      (w'.cell? ⟨w.heap.size + 1, 0, none⟩ = some (.int .i64 e) ∧ w'.cell? ⟨w.heap.size + 1, 1, none⟩ = some (.int .i64 f) ∧ w'.cell? ⟨w.heap.size + 1, 2, none⟩ = some (.int .i64 g) ∧ w'.cell? ⟨w.heap.size + 1, 3, none⟩ = some (.int .i64 h)) ∧
      ((w'.cell? ⟨w.heap.size + 1 + 1, 0, none⟩ = some (.int .u64 (rdu w' (w.heap.size + 1 + 1) 0)) ∧ w'.cell? ⟨w.heap.size + 1 + 1, 1, none⟩ = some (.int .u64 (rdu w' (w.heap.size + 1 + 1) 1))) ∧ (w'.frozen? ⟨w.heap.size + 1 + 1, 0, none⟩ = false ∧ w'.frozen? ⟨w.heap.size + 1 + 1, 1, none⟩ = false)) ∧ Res w w' (w.heap.size + 1 + 1)) ∧ (w'.cell? ⟨g3, 0, none⟩ = some (.int .u64 x2) ∧ w'.cell? ⟨g3, 1, none⟩ = some (.int .u64 y2)))
    (first | exact ⟨bxs_keep (Bd B0) HS, F3.2⟩ | assumption | exact ⟨bxs_keep (Bd B0) (And.left (by assumption)), kp2 (Bd B0) (And.right (by assumption))⟩ | exact wst_keep (by assumption) (by assumption) | exact wst_set (by assumption) (by omega) (by omega) (by omega) (by omega) (by assumption) (by assumption) rfl)
    (first
      | (go_at_call 58; (with_reducible refine (area_any _ _ _ _ _ H1.out).mono ?_); rintro _ wB ⟨hB, lB, hB1, hB2, rfl, hbB⟩)
      | (go_at_call 58; (with_reducible refine (area_any _ _ _ _ _ H2.out).mono ?_); rintro _ wC ⟨hC, lC, hC1, hC2, rfl, hbC⟩)
      | (go_at_call 83; (with_reducible refine (minus_any _ _ _ _ _).mono ?_); rintro _ wD ⟨hD, lD, hD1, hD2, rfl, hbD⟩))
  all_goals rename_i hh
  all_goals generalize World.setCell (World.setCell _ _ _) _ _ = wE at *
  all_goals obtain ⟨⟨-, -, ⟨⟨o0, o1⟩, -⟩, r⟩, -⟩ := hh
  all_goals obtain ⟨n, hn⟩ := r.1.nat
  all_goals obtain ⟨m, hm⟩ := r.2.1.nat
  all_goals have B := r.2.2
  all_goals rw [hn.1] at o0
  all_goals rw [hm.1] at o1
  all_goals have N := Lib.hid hn.2
  all_goals have M := Lib.hid hm.2
  all_goals clear hn hm r
  all_goals go_wp2_with fail
  all_goals exact bodyPost_ret (v := .agg #[.int .u64 n, .int .u64 m]) (by simp [results, Tryz.results105, go_sem, o0, o1]) rfl ⟨n, m, N.out, M.out, rfl, B⟩
set_option maxHeartbeats 4000000 in
theorem apart_any (a b c d : Nat) (w : World) (ha : W64 a) (hb : W64 b) (hc : W64 c) (hd : W64 d) :
    Calls Tryz.prog 107 #[.agg #[.int .u64 a, .int .u64 b], .agg #[.int .u64 c, .int .u64 d]] w (WideOut w) := by
  obtain ⟨r, hr⟩ : ∃ r, r = Wide.cmp a b c d := ⟨_, rfl⟩
  have C : ∀ W, Calls Tryz.prog 56 #[.agg #[.int .u64 a, .int .u64 b], .agg #[.int .u64 c, .int .u64 d]] W fun e w' => e = .returned (.int .i64 r) ∧ Below W.heap.size W w' := fun W => by
    rw [hr]; exact cmp_any a b c d W ha hb hc hd
  clear hr ha hb hc hd
  have F1 : Two (((w.alloc (.cells #[.int .u64 a, .int .u64 b] 87)).alloc (.cells #[.int .u64 c, .int .u64 d] 87)).alloc (.cells #[.int .u64 0, .int .u64 0] 87)) w.heap.size (.int .u64 a) (.int .u64 b) := ((Two.new _ _ _ _).past _).past _
  have F2 : Two (((w.alloc (.cells #[.int .u64 a, .int .u64 b] 87)).alloc (.cells #[.int .u64 c, .int .u64 d] 87)).alloc (.cells #[.int .u64 0, .int .u64 0] 87)) (w.heap.size + 1) (.int .u64 c) (.int .u64 d) := (Two.new' _ _ _ _ (by simp)).past _
  have F3 : Two (((w.alloc (.cells #[.int .u64 a, .int .u64 b] 87)).alloc (.cells #[.int .u64 c, .int .u64 d] 87)).alloc (.cells #[.int .u64 0, .int .u64 0] 87)) (w.heap.size + 1 + 1) (.int .u64 0) (.int .u64 0) := Two.new' _ _ _ _ (by simp)
  have Fr : Free (((w.alloc (.cells #[.int .u64 a, .int .u64 b] 87)).alloc (.cells #[.int .u64 c, .int .u64 d] 87)).alloc (.cells #[.int .u64 0, .int .u64 0] 87)) (w.heap.size + 1 + 1) := Free.new _ _ _ (by simp)
  have B : Below w.heap.size w (((w.alloc (.cells #[.int .u64 a, .int .u64 b] 87)).alloc (.cells #[.int .u64 c, .int .u64 d] 87)).alloc (.cells #[.int .u64 0, .int .u64 0] 87)) := Ba (Ba (Ba B0))
  go_enter Tryz.func107, Tryz.ntmps107
  go_wp2_with fail
  generalize (((w.alloc (.cells #[.int .u64 a, .int .u64 b] 87)).alloc (.cells #[.int .u64 c, .int .u64 d] 87)).alloc (.cells #[.int .u64 0, .int .u64 0] 87)) = W at *
  refine (C _).mono ?_
  rintro _ w1 ⟨rfl, hb1⟩
  have F1 := F1.keep hb1
  have F2 := F2.keep hb1
  have F3 := F3.keep hb1
  have Fr := Fr.keep hb1
  have B := Bt B hb1
  clear hb1 C
  obtain ⟨z1, a1, a2⟩ := id F1
  obtain ⟨z2, b1, b2⟩ := id F2
  by_cases h : r < 0
  · go_wp2_with fail
    refine (minus_any _ _ _ _ _).mono ?_
    rintro _ w2 ⟨n, m, hn, hm, rfl, hb2⟩
    have F3 := F3.keep hb2
    have Fr := Fr.keep hb2
    have B := Bt B hb2
    clear hb2 F1 F2 z1 a1 a2 z2 b1 b2
    obtain ⟨z, o0, o1⟩ := F3
    have s0 := Fr.2 0; have s1 := Fr.2 1
    clear Fr
    go_wp2_with fail
    exact bodyPost_ret (v := .agg #[.int .u64 n, .int .u64 m]) (by simp [results, Tryz.results107, go_sem, o0, o1]) rfl ⟨n, m, hn, hm, rfl, Bs (Bs B (by simp <;> omega)) (by simp <;> omega)⟩
  · go_wp2_with fail
    refine (minus_any _ _ _ _ _).mono ?_
    rintro _ w2 ⟨n, m, hn, hm, rfl, hb2⟩
    have F3 := F3.keep hb2
    have Fr := Fr.keep hb2
    have B := Bt B hb2
    clear hb2 F1 F2 z1 a1 a2 z2 b1 b2
    obtain ⟨z, o0, o1⟩ := F3
    have s0 := Fr.2 0; have s1 := Fr.2 1
    clear Fr
    go_wp2_with fail
    exact bodyPost_ret (v := .agg #[.int .u64 n, .int .u64 m]) (by simp [results, Tryz.results107, go_sem, o0, o1]) rfl ⟨n, m, hn, hm, rfl, Bs (Bs B (by simp <;> omega)) (by simp <;> omega)⟩
end Go.Proofs.YtiboonkegjahaaaGreat.TreW
