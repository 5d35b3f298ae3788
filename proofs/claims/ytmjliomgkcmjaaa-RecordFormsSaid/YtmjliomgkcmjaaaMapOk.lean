/-
  Plain facts on maps; SameMap (parted from XMapRef for layer 11).
-/
import Derived.Test.YtmjliomgkcmjaaaInts
import Derived.Deep.DeepCutAuto
namespace Go.Proofs.Ytmjliomgkcmjaaa.IntW
open Go.RowKit WideW
set_option linter.all false

/-- What is asked of a map as a whole. -/
def HeadOk (ep : Int) (ss os : List Int) (n : Int) : Prop := 1 ≤ n ∧ n ≤ 8 ∧ 1 ≤ ep ∧ ep ≤ 65535 ∧ 1 ≤ ss.length ∧ ss.length ≤ 32 ∧ os.length = ss.length ∧ it ss 0 = 0
/-- What is asked of its i-th stretch. -/
def RowAt (ss os : List Int) (n : Int) (i : Nat) : Prop := it ss i < 4294967296 ∧ 0 ≤ it os i ∧ it os i < n ∧ (0 < i → it ss (i - 1) < it ss i)
def MapOk (ep : Int) (ss os : List Int) (n : Int) : Prop := HeadOk ep ss os n ∧ ∀ i, i < ss.length → RowAt ss os n i
/-- The stretch that has a place. -/
def AtIs (ss : List Int) (d : Int) (i : Nat) : Prop := i < ss.length ∧ (∀ j, 0 < j → j ≤ i → it ss j ≤ d) ∧ (i + 1 < ss.length → d < it ss (i + 1))
theorem at_uniq {ss : List Int} {d : Int} {i j : Nat} (h : AtIs ss d i) (k : AtIs ss d j) : i = j := by
  rcases Nat.lt_trichotomy i j with x | x | x
  · have h1 := h.2.2 (by have := k.1; omega)
    have k1 := k.2.1 (i + 1) (by omega) x
    omega
  · exact x
  · have h1 := k.2.2 (by have := h.1; omega)
    have k1 := h.2.1 (j + 1) (by omega) x
    omega
theorem val_bool {a b : Bool} (h : a = b) : Value.bool a = .bool b := by rw [h]

set_option maxRecDepth 100000 in
set_option maxHeartbeats 2000000 in
theorem sameM_any (e e' : Int) (vs vo vs' vo' : Value) (ss os ss' os' : List Int) (r : Bool) (w : World) (hs : RdI w w.heap.size vs ss) (ho : RdI w w.heap.size vo os) (hs' : RdI w w.heap.size vs' ss') (ho' : RdI w w.heap.size vo' os') (hr : r = true ↔ e = e' ∧ ss = ss' ∧ os = os') :
    Calls Try.prog 13 #[.agg #[.int .i64 e, vs, vo], .agg #[.int .i64 e', vs', vo']] w fun x w' => x = .returned (.bool r) ∧ Below w.heap.size w w' := by
  have HR := Lib.hid hr
  obtain ⟨r1, H1⟩ := has_bool (ss = ss')
  obtain ⟨r2, H2⟩ := has_bool (os = os')
  clear hr
  obtain ⟨A1, c1, rfl, -⟩ := id hs
  obtain ⟨A2, c2, rfl, -⟩ := id ho
  obtain ⟨A3, c3, rfl, -⟩ := id hs'
  obtain ⟨A4, c4, rfl, -⟩ := id ho'
  have P1 := Blk.alloc (Blk.new w 33 #[.int .i64 e, .slice A1 ss.length c1, .slice A2 os.length c2]) (.cells #[.int .i64 e', .slice A3 ss'.length c3, .slice A4 os'.length c4] 33)
  have P2 := Blk.new' (w.alloc (.cells #[.int .i64 e, .slice A1 ss.length c1, .slice A2 os.length c2] 33)) 33 #[.int .i64 e', .slice A3 ss'.length c3, .slice A4 os'.length c4] (g := w.heap.size + 1) (by simp)
  have B1 : Below w.heap.size w ((w.alloc (.cells #[.int .i64 e, .slice A1 ss.length c1, .slice A2 os.length c2] 33)).alloc (.cells #[.int .i64 e', .slice A3 ss'.length c3, .slice A4 os'.length c4] 33)) := Ba (Ba B0)
  have hs := hs.on B1
  have ho := ho.on B1
  have hs' := hs'.on B1
  have ho' := ho'.on B1
  go_enter Try.func13, Try.ntmps13
  go_upto_region 1 with fail
  generalize (w.alloc (.cells #[.int .i64 e, .slice A1 ss.length c1, .slice A2 os.length c2] 33)).alloc (.cells #[.int .i64 e', .slice A3 ss'.length c3, .slice A4 os'.length c4] 33) = w1 at *
  have a0 := P1.cell 0
  have a1 := P1.cell 1
  have b0 := P2.cell 0
  have b1 := P2.cell 1
  simp at a0 a1 b0 b1
  by_cases he : e = e'
  case neg =>
    have d : (e == e') = false := by simpa using he
    have HE := Lib.hid he
    clear he
    go_wp2_with fail
    go_ret
    exact ⟨ret_bool (bool_eq HR.out (by simp; intro h; exact absurd h HE.out)), B1⟩
  have d : (e == e') = true := by simpa using he
  have HE := Lib.hid he
  clear he
  go_wp2_with fail
  refine (sameI_any _ _ ss ss' r1 _ hs hs' H1.out).mono ?_
  rintro _ w2 ⟨rfl, hb⟩
  have ho := ho.on hb
  have ho' := ho'.on hb
  have P1 := P1.keep hb
  have P2 := P2.keep hb
  have B2 := Bt B1 hb
  have a2 := P1.cell 2
  have b2 := P2.cell 2
  simp at a2 b2
  clear hb B1 a0 a1 b0 b1 hs hs'
  cases r1
  · go_wp2_with fail
    go_ret
    exact ⟨ret_bool (bool_eq HR.out (by simp; intro _ h; exact absurd (H1.out.2 h) (by simp))), B2⟩
  go_wp2_with fail
  refine (sameI_any _ _ os os' r2 _ ho ho' H2.out).mono ?_
  rintro _ w3 ⟨rfl, hb⟩
  have B3 := Bt B2 hb
  go_wp2_with fail
  go_ret
  exact ⟨ret_bool (bool_eq HR.out (by rw [H2.out]; exact ⟨fun h => ⟨HE.out, H1.out.1 (by simp), h⟩, fun h => h.2.2⟩)), B3⟩
end Go.Proofs.Ytmjliomgkcmjaaa.IntW
