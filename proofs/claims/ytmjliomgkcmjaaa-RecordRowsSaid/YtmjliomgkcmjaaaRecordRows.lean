/-
  For every node, number, id and epoch, masked to their ranges, Put lays the records of kinds End, Decide, Begin and Map byte by byte as the chapter says: the law RecordRows returns true.
-/
import Derived.Test.YtmjliomgkcmjaaaRows
import Derived.Test.YtmjliomgkcmjaaaRecAwake
import Derived.Test.YtmjliomgkcmjaaaHilbBits
import Derived.WalkKit
import Derived.ProofKit
import Derived.OpenShut
import Derived.ShutString
import Derived.ChangeOld
import Derived.Below
import Derived.Lib.SmallJoins
namespace Go.Proofs.Ytmjliomgkcmjaaa.recordRows
open Go.ChangeShapes Go.WideShapes Go.ChangeAt Go.RowKit Go.Joins
open Go.ChangeMaps (open_string shut_string)
set_option linter.all false

theorem own : ownKnob Try.prog.godebug = none := by kernel_rfl
theorem laidOut : laidOutB Try.prog = true := by kernel_rfl

open WideW IntW CovW ShpW RecW
theorem mask7 (x : Int) : ∃ K : Nat, K < 8 ∧ bits .and .i64 x 7 = (K : Int) := by
  obtain ⟨K, h1, h2⟩ := Hilb.mask (k := 3) x (by decide)
  exact ⟨K, by omega, h2⟩
theorem mask15 (x : Int) : ∃ K : Nat, K < 32768 ∧ bits .and .i64 x 32767 = (K : Int) := by
  obtain ⟨K, h1, h2⟩ := Hilb.mask (k := 15) x (by decide)
  exact ⟨K, by omega, h2⟩
theorem conv_list (W : World) (l : Byts) (cs : Array Value) (g : Nat) (h : cs.toList = bCells l) (h0 : 0 < l.length) (hl : l.length ≤ 1000) (hg : g = W.heap.size) :
    (convert 45 9 (.slice (some ⟨g, 0, none⟩) l.length l.length)).run Try.prog (W.alloc (.cells cs 5)) = .ok (strV l) (W.alloc (.cells cs 5)) := by
  subst hg
  have hs : cs.size = l.length := by rw [← Array.length_toList, h, bCells_len]
  have := World.ownsRow_lit (base := 0) (e := 5) (size := 1) W cs l.length (Nat.zero_le _) (by unfold maxLen; omega) (by omega)
  rw [h] at this
  exact conv_bytes this h0
/-- The two bytes of a number from 1 to 32768. -/
theorem two (K : Nat) (hK : K < 32768) : ∃ a b : UInt8, be 2 (1 + (K : Int)) = [a, b] ∧ ((1 + (K : Int)) / 256 = (a.toNat : Int)) ∧ ((1 + (K : Int)) % 256 = (b.toNat : Int)) := by
  refine ⟨_, _, be2 _, ?_, ?_⟩
  · rw [ofNat_toNat _ (Nat.mod_lt _ (by decide))]; omega
  · rw [ofNat_toNat _ (Nat.mod_lt _ (by decide))]; omega
theorem one (N : Nat) (hN : N < 8) : ∃ a : UInt8, be 1 (N : Int) = [a] ∧ (N : Int) = (a.toNat : Int) := by
  refine ⟨_, be1 _, ?_⟩
  rw [ofNat_toNat _ (Nat.mod_lt _ (by decide))]; omega
theorem put_of {x : RecV} {s : Byts} (h : RMay x) (e : putRec x = s) (hl : s.length ≤ 8192) : PutOut x s 0 := .inl ⟨h, by rw [e]; exact hl, e.symm, rfl⟩
section
variable {N Q K E : Nat} {n1 q1 q2 k1 k2 e1 e2 : UInt8} (hN : N < 8) (hQ : Q < 32768) (hK : K < 32768) (hE : E < 32768) (en : be 1 (N : Int) = [n1]) (eq : be 2 (1 + (Q : Int)) = [q1, q2]) (ek : be 2 (1 + (K : Int)) = [k1, k2]) (ee : be 2 (1 + (E : Int)) = [e1, e2])
include hN hQ in
theorem name_ok : NameMay N (1 + (Q : Int)) := ⟨⟨by omega, by omega⟩, by omega, by omega⟩
include en eq in
theorem name_is : putName N (1 + (Q : Int)) = [n1, q1, q2] := by unfold putName; rw [en, eq]; rfl
include hN hQ en eq in
theorem p_end : PutOut ⟨4, N, 1 + (Q : Int), 0, false, 0, [], [], []⟩ [4, n1, q1, q2] 0 :=
  put_of (.inr (.inr (.inr ⟨rfl, name_ok hN hQ, rfl, ⟨rfl, rfl, rfl⟩, rfl, rfl⟩))) (by unfold putRec; dsimp only; rw [if_neg (by decide), if_neg (by decide), if_neg (by decide), if_pos rfl, name_is en eq]; rfl) (by simp)
include hN hQ en eq in
theorem p_decide : PutOut ⟨3, N, 1 + (Q : Int), 0, false, 0, [], [], []⟩ [3, n1, q1, q2, 0] 0 :=
  put_of (.inr (.inr (.inl ⟨rfl, name_ok hN hQ, ⟨rfl, rfl, rfl⟩, rfl, rfl⟩))) (by unfold putRec; dsimp only; rw [if_neg (by decide), if_neg (by decide), if_pos rfl, name_is en eq]; rfl) (by simp)
include hN hQ hK en eq ek in
theorem p_begin : PutOut ⟨1, N, 1 + (Q : Int), -1, false, 0, [], [], [⟨1, 0, 0, [], 1 + (K : Int), 0, [], []⟩]⟩ [1, n1, q1, q2, 0, 0, 0, 0, 1, 1, k1, k2] 0 := by
  refine put_of (.inr (.inl ⟨.inl rfl, name_ok hN hQ, ⟨by dsimp only; omega, by dsimp only; omega⟩, ⟨by simp, ?_, by simp [MapsFirst], by simp [idsOf]⟩, rfl, rfl, rfl, rfl⟩)) ?_ (by simp)
  · intro o ho
    simp at ho
    subst ho
    exact .inr (.inl ⟨rfl, ⟨by dsimp only; omega, by dsimp only; omega⟩, ⟨rfl, rfl, rfl⟩, rfl, rfl, rfl⟩)
  · unfold putRec
    dsimp only
    rw [if_neg (by decide), if_pos (by decide), name_is en eq]
    unfold putOps
    simp only [List.flatMap_cons, List.flatMap_nil, putOp]
    simp only [if_neg (show ¬ (1 : Int) = 0 by decide), if_true, ek]
    have l1 : ∀ o : OpV, be 1 (([o] : List OpV).length : Int) = [1] := fun _ => (show be 1 ((1 : Nat) : Int) = [1] by decide)
    rw [show be 4 (-1 + 1) = [0, 0, 0, 0] by decide, show be 1 1 = [1] by decide, l1]
    rfl
include hE ee in
theorem p_map : PutOut ⟨0, 0, 0, 0, false, 1 + (E : Int), [0, 258], [3, 4], []⟩ [0, e1, e2, 2, 0, 0, 0, 0, 0, 0, 1, 2, 3, 4] 0 := by
  refine put_of (.inl ⟨rfl, ?_, ⟨rfl, rfl⟩, rfl, rfl, rfl⟩) ?_ (by simp)
  · rw [mapOk_iff]
    refine ⟨by omega, by dsimp only; omega, ⟨⟨by simp, by simp, by simp [it]⟩, ?_, by simp [it]⟩, rfl, ?_⟩
    · intro i hi
      have : i = 0 := by simp at hi; omega
      subst this
      simp [it]
    · intro j hj
      have : j = 0 ∨ j = 1 := by simp at hj; omega
      rcases this with rfl | rfl <;> simp [it]
  · unfold putRec
    dsimp only
    rw [if_pos rfl]
    unfold putMap
    rw [ee]
    rfl
end
theorem op_read {W : World} {g : Nat} {t : TypeId} {K : Int} (h : Blk W g t #[.int .i64 1, .int .i64 0, .int .i64 0, .slice none 0 0, .int .i64 K, .int .i64 0, .slice none 0 0, .slice none 0 0]) : RdOs W W.heap.size (.slice (some ⟨g, 0, none⟩) 1 1) [⟨1, 0, 0, [], K, 0, [], []⟩] := by
  refine ⟨_, _, rfl, ⟨by simp, by simp⟩, fun _ => ⟨_, _, rfl, h.lt, fun j hj => ?_⟩⟩
  obtain rfl : j = 0 := by simpa using hj
  exact ⟨_, _, _, ⟨h.cell 0, h.cell 1, h.cell 2, h.cell 3, h.cell 4, h.cell 5, h.cell 6, h.cell 7⟩, rdr_nil _ _ _ _, RdI.nil _ _ _ _, RdI.nil _ _ _ _⟩
theorem ints_read {W : World} {g : Nat} {t : TypeId} {a b : Int} (h : Blk W g t #[.int .i64 a, .int .i64 b]) : RdI W W.heap.size (.slice (some ⟨g, 0, none⟩) 2 2) [a, b] := by
  refine ⟨_, _, rfl, by simp, fun _ => ⟨_, _, rfl, h.lt, fun j hj => ?_⟩⟩
  have : j = 0 ∨ j = 1 := by simp at hj; omega
  rcases this with rfl | rfl
  · exact h.cell 0
  · exact h.cell 1
theorem eq_yes {a b : Byts} (h : a = b) : (a == b) = true := by simpa using h

set_option maxRecDepth 100000 in
set_option maxHeartbeats 8000000 in
theorem walk (a0 : Int) (w0 : (Lit.int .i64 a0).wf = true) (a1 : Int) (w1 : (Lit.int .i64 a1).wf = true) (a2 : Int) (w2 : (Lit.int .i64 a2).wf = true) (a3 : Int) (w3 : (Lit.int .i64 a3).wf = true) (w : World)  :
    Calls Try.prog 4 #[.int .i64 a0, .int .i64 a1, .int .i64 a2, .int .i64 a3] w fun e w' => e = .returned (.bool true) ∧ Below w.heap.size w w' := by
  obtain ⟨N, hN, eN⟩ := mask7 a0
  obtain ⟨Q, hQ, eQ⟩ := mask15 a1
  obtain ⟨K, hK, eK⟩ := mask15 a2
  obtain ⟨E, hE, eE⟩ := mask15 a3
  obtain ⟨n1, en, en1⟩ := one N hN
  obtain ⟨q1, q2, eq, eq1, eq2⟩ := two Q hQ
  obtain ⟨k1, k2, ek, ek1, ek2⟩ := two K hK
  obtain ⟨e1, e2, ee, ee1, ee2⟩ := two E hE
  have PE := Lib.hid (p_end hN hQ en eq)
  have PD := Lib.hid (p_decide hN hQ en eq)
  have PB := Lib.hid (p_begin hN hQ hK en eq ek)
  have PM := Lib.hid (p_map hE ee)
  have HN := Lib.hid en
  have HQ := Lib.hid eq
  have HK := Lib.hid ek
  have HE := Lib.hid ee
  have HN1 := Lib.hid en1
  clear en eq ek ee en1
  go_enter Try.func4, Try.ntmps4
  go_wp2_with fail
  refine (awake_any w).mono ?_
  rintro _ w1 ⟨rfl, B1⟩
  have b2 := Blk.new w1 30 #[.int .i64 N, .int .i64 (1 + Q)]
  have B2 := Bt B1 (Ba (w := w1) (o := .cells #[.int .i64 N, .int .i64 (1 + Q)] 30) B0)
  obtain ⟨g, hg⟩ : ∃ g, w1.heap.size = g := ⟨_, rfl⟩
  go_upto_region 4 with fail
  generalize w1.alloc (.cells #[.int .i64 N, .int .i64 (1 + Q)] 30) = w2 at *
  rw [hg] at b2
  clear hg
  have d0 := b2.cell 0
  have d1 := b2.cell 1
  simp at d0 d1
  have CV : Sem.run Try.prog (convert 45 9 (.slice (some ⟨w2.heap.size, 0, none⟩) 3 3)) (w2.alloc (.cells #[.int .u8 N, .int .u8 q1.toNat, .int .u8 q2.toNat] 5)) = .ok (strV [n1, q1, q2]) (w2.alloc (.cells #[.int .u8 N, .int .u8 q1.toNat, .int .u8 q2.toNat] 5)) :=
    conv_list w2 [n1, q1, q2] _ _ (by rw [HN1.out]; rfl) (by simp) (by simp) rfl
  unfold strV at CV
  have b3 := b2.alloc (.cells #[.int .u8 N, .int .u8 q1.toNat, .int .u8 q2.toNat] 5)
  have B3 := Bt B2 (Ba (w := w2) (o := .cells #[.int .u8 N, .int .u8 q1.toNat, .int .u8 q2.toNat] 5) B0)
  go_upto_region 6 with fail
  clear CV d0 d1
  generalize w2.alloc (.cells #[.int .u8 N, .int .u8 q1.toNat, .int .u8 q2.toNat] 5) = w3 at *
  have d0 := b3.cell 0
  have d1 := b3.cell 1
  simp at d0 d1
  have PT := put_any _ _ [4, n1, q1, q2] 0 w3 (aw_rec w3 4 N (1 + Q) 0 false) PE.out
  unfold strV at PT
  go_wp2_with fail
  refine PT.mono ?_
  rintro _ w4 ⟨rfl, hb⟩
  clear PT d0 d1
  have b4 := b3.keep hb
  have B4 := Bt B3 hb
  clear b3 B3 hb
  have d0 := b4.cell 0
  have d1 := b4.cell 1
  simp at d0 d1
  have PT := put_any _ _ [3, n1, q1, q2, 0] 0 w4 (aw_rec w4 3 N (1 + Q) 0 false) PD.out
  unfold strV at PT
  go_wp2_with fail
  refine PT.mono ?_
  rintro _ w5 ⟨rfl, hb⟩
  clear PT d0 d1
  have b5 := b4.keep hb
  have B5 := Bt B4 hb
  clear b4 B4 hb
  have d0 := b5.cell 0
  have d1 := b5.cell 1
  simp at d0 d1
  have o6 := Blk.new w5 35 #[.int .i64 1, .int .i64 0, .int .i64 0, .slice none 0 0, .int .i64 (1 + K), .int .i64 0, .slice none 0 0, .slice none 0 0]
  have B6 := Bt B5 (Ba (w := w5) (o := .cells #[.int .i64 1, .int .i64 0, .int .i64 0, .slice none 0 0, .int .i64 (1 + K), .int .i64 0, .slice none 0 0, .slice none 0 0] 35) B0)
  have PT := put_any (.agg #[.int .i64 1, .int .i64 N, .int .i64 (1 + Q), .int .i64 (-1), .bool false, .int .i64 0, .slice none 0 0, .slice none 0 0, .slice (some ⟨w5.heap.size, 0, none⟩) 1 1]) _ [1, n1, q1, q2, 0, 0, 0, 0, 1, 1, k1, k2] 0 _ ⟨_, _, _, rfl, RdI.nil _ _ _ _, RdI.nil _ _ _ _, op_read o6⟩ PB.out
  unfold strV at PT
  go_wp2_with fail
  refine PT.mono ?_
  rintro _ w7 ⟨rfl, hb⟩
  have B7 := Bt B6 hb
  clear PT d0 d1 b5 B5 B6 o6 hb
  have m1 := (Blk.new w7 3 #[.int .i64 0, .int .i64 258]).alloc (.cells #[.int .i64 3, .int .i64 4] 3)
  have m2 := Blk.new' (w7.alloc (.cells #[.int .i64 0, .int .i64 258] 3)) 3 #[.int .i64 3, .int .i64 4] (g := w7.heap.size + 1) (by simp)
  have B8 := Bt B7 (Ba (w := w7) (o := .cells #[.int .i64 3, .int .i64 4] 3) (Ba (o := .cells #[.int .i64 0, .int .i64 258] 3) B0))
  have PT := put_any (.agg #[.int .i64 0, .int .i64 0, .int .i64 0, .int .i64 0, .bool false, .int .i64 (1 + E), .slice (some ⟨w7.heap.size, 0, none⟩) 2 2, .slice (some ⟨w7.heap.size + 1, 0, none⟩) 2 2, .slice none 0 0]) _ [0, e1, e2, 2, 0, 0, 0, 0, 0, 0, 1, 2, 3, 4] 0 _ ⟨_, _, _, rfl, ints_read m1, ints_read m2, RdOs.nil _ _ _ _⟩ PM.out
  unfold strV at PT
  go_wp2_with fail
  refine PT.mono ?_
  rintro _ w9 ⟨rfl, hb⟩
  have B9 := Bt B8 hb
  clear PT m1 m2 B7 B8 hb
  go_wp2_with fail
  refine (num_any 0 w9).mono ?_
  rintro _ _ ⟨rfl, rfl⟩
  have c1 : ({ data := #[4] } : ByteArray) ++ { data := #[n1, q1, q2] } = { data := #[4, n1, q1, q2] } := app_str [4] [n1, q1, q2]
  have c2 : ({ data := #[3] } : ByteArray) ++ { data := #[n1, q1, q2] } = { data := #[3, n1, q1, q2] } := app_str [3] [n1, q1, q2]
  have c3 : ({ data := #[3, n1, q1, q2] } : ByteArray) ++ { data := #[0] } = { data := #[3, n1, q1, q2, 0] } := app_str [3, n1, q1, q2] [0]
  have c4 : ({ data := #[1] } : ByteArray) ++ { data := #[n1, q1, q2] } = { data := #[1, n1, q1, q2] } := app_str [1] [n1, q1, q2]
  have c5 : ({ data := #[1, n1, q1, q2] } : ByteArray) ++ { data := #[0, 0, 0, 0, 1, 1] } = { data := #[1, n1, q1, q2, 0, 0, 0, 0, 1, 1] } := app_str [1, n1, q1, q2] [0, 0, 0, 0, 1, 1]
  have c6 : ({ data := #[1, n1, q1, q2, 0, 0, 0, 0, 1, 1] } : ByteArray) ++ { data := #[k1, k2] } = { data := #[1, n1, q1, q2, 0, 0, 0, 0, 1, 1, k1, k2] } := app_str [1, n1, q1, q2, 0, 0, 0, 0, 1, 1] [k1, k2]
  have c7 : ({ data := #[0] } : ByteArray) ++ { data := #[e1, e2] } = { data := #[0, e1, e2] } := app_str [0] [e1, e2]
  have c8 : ({ data := #[0, e1, e2] } : ByteArray) ++ { data := #[2, 0, 0, 0, 0, 0, 0, 1, 2, 3, 4] } = { data := #[0, e1, e2, 2, 0, 0, 0, 0, 0, 0, 1, 2, 3, 4] } := app_str [0, e1, e2] [2, 0, 0, 0, 0, 0, 0, 1, 2, 3, 4]
  have CK : ∀ W : World, Sem.run Try.prog (convert 45 9 (.slice (some ⟨W.heap.size, 0, none⟩) 2 2)) (W.alloc (.cells #[.int .u8 k1.toNat, .int .u8 k2.toNat] 5)) = .ok (.string ⟨[k1, k2].toArray⟩) (W.alloc (.cells #[.int .u8 k1.toNat, .int .u8 k2.toNat] 5)) := fun W =>
    conv_list W [k1, k2] _ _ rfl (by simp) (by simp) rfl
  have CE : ∀ W : World, Sem.run Try.prog (convert 45 9 (.slice (some ⟨W.heap.size, 0, none⟩) 2 2)) (W.alloc (.cells #[.int .u8 e1.toNat, .int .u8 e2.toNat] 5)) = .ok (.string ⟨[e1, e2].toArray⟩) (W.alloc (.cells #[.int .u8 e1.toNat, .int .u8 e2.toNat] 5)) := fun W =>
    conv_list W [e1, e2] _ _ rfl (by simp) (by simp) rfl
  go_wp2_with fail
  refine (num_any 0 w9).mono ?_
  rintro _ _ ⟨rfl, rfl⟩
  go_wp2_with fail
  refine (num_any 0 w9).mono ?_
  rintro _ _ ⟨rfl, rfl⟩
  have BA := Bt B9 (Ba (w := w9) (o := .cells #[.int .u8 k1.toNat, .int .u8 k2.toNat] 5) B0)
  go_wp2_with fail
  generalize w9.alloc (.cells #[.int .u8 k1.toNat, .int .u8 k2.toNat] 5) = wA at *
  refine (num_any 0 wA).mono ?_
  rintro _ _ ⟨rfl, rfl⟩
  have BC := Bt BA (Ba (w := wA) (o := .cells #[.int .u8 e1.toNat, .int .u8 e2.toNat] 5) B0)
  go_wp2_with fail
  go_ret
  exact ⟨rfl, BC⟩

set_option maxRecDepth 100000 in
theorem lifted (os : Os) (started : os.Started) (H : Type) (enc : TypeId × Value → H) :
    ReturnsInHanded {} Try.checked os 4 .any (Rows.recordRowsSpec.pre6 enc Try.prog Try.f4 Rows.recordRowsRow.domain false) (Rows.recordRowsSpec.post enc Try.prog Try.f4 false true false false) := by
  refine returnsInHanded_of_change (C := Try.checked) own started (by kernel_rfl) Try.func4
    (ChangeSpec.witness6 (enc := enc) (C := Try.checked) false ⟨#[], #[.int .i64 0, .int .i64 0, .int .i64 0, .int .i64 0], []⟩ 8 (by kernel_rfl) (by kernel_rfl) (by kernel_rfl) (by kernel_rfl)) ?_
  intro W base args ds gs before hval0 hW hcnd _
  have hval : ∀ (j : Nat) t v, Try.f4.params[j]? = some t → args[j]? = some v → Value.okWide Try.prog W .any base t v := hval0
  have hW' := hW
  obtain ⟨p, q, hA0, hV, rfl, hfz, hnd⟩ := hW
  have hA : DataW.TrodAll enc Try.prog W 0 (fun _ => true) true Try.f4.params.toList args.toList ds p := hA0
  rw [Try.params4] at hA hval
  obtain ⟨v0, vs0, d0, ds0, p0, q0, hargs, rfl, rfl, h0, r0⟩ := trodAll_cons hA
  obtain ⟨v1, vs1, d1, ds1, p1, q1, rfl, rfl, rfl, h1, r1⟩ := trodAll_cons r0
  obtain ⟨v2, vs2, d2, ds2, p2, q2, rfl, rfl, rfl, h2, r2⟩ := trodAll_cons r1
  obtain ⟨v3, vs3, d3, ds3, p3, q3, rfl, rfl, rfl, h3, r3⟩ := trodAll_cons r2
  obtain ⟨rfl, rfl, rfl⟩ := trodAll_nil r3
  obtain rfl : args = #[v0, v1, v2, v3] := by cases args; simp_all
  obtain ⟨rfl, rfl⟩ := trodVars_none hV
  have k0 := h0
  have lt0 : ∀ x ∈ p0, x.block < W.heap.size := by obtain ⟨m, hm⟩ := k0; exact DataW.trod_lt m _ _ _ hm
  have k1 := h1
  have lt1 : ∀ x ∈ p1, x.block < W.heap.size := by obtain ⟨m, hm⟩ := k1; exact DataW.trod_lt m _ _ _ hm
  have k2 := h2
  have lt2 : ∀ x ∈ p2, x.block < W.heap.size := by obtain ⟨m, hm⟩ := k2; exact DataW.trod_lt m _ _ _ hm
  have k3 := h3
  have lt3 : ∀ x ∈ p3, x.block < W.heap.size := by obtain ⟨m, hm⟩ := k3; exact DataW.trod_lt m _ _ _ hm
  obtain ⟨a0, rfl, rfl, rfl, w0⟩ := open_int Try.underlying3 (hval 0 3 v0 rfl rfl) h0
  obtain ⟨a1, rfl, rfl, rfl, w1⟩ := open_int Try.underlying3 (hval 1 3 v1 rfl rfl) h1
  obtain ⟨a2, rfl, rfl, rfl, w2⟩ := open_int Try.underlying3 (hval 2 3 v2 rfl rfl) h2
  obtain ⟨a3, rfl, rfl, rfl, w3⟩ := open_int Try.underlying3 (hval 3 3 v3 rfl rfl) h3
  clear hA0 hval0
  refine (walk a0 w0 a1 w1 a2 w2 a3 w3 W ).mono fun e W' ⟨he, bel⟩ => ?_
  subst he
  exact ⟨_, rfl, _, _, _, [], _, [], hW', trodAll_mk1 (shut_bool Try.underlying4 _), (trodAll_cons_mk (Below.trod laidOut (by kernel_rfl) (of_decide_eq_true (by kernel_rfl)) k0 bel lt0) (trodAll_cons_mk (Below.trod laidOut (by kernel_rfl) (of_decide_eq_true (by kernel_rfl)) k1 bel lt1) (trodAll_cons_mk (Below.trod laidOut (by kernel_rfl) (of_decide_eq_true (by kernel_rfl)) k2 bel lt2) (trodAll_cons_mk (Below.trod laidOut (by kernel_rfl) (of_decide_eq_true (by kernel_rfl)) k3 bel lt3) trodAll_mk0)))), rfl, bel.frame _, fun h => by cases h⟩

theorem proved : Rows.RecordRowsSaid :=
  OpenClaim.holds_of_wide 4 Try.f4 rfl rfl rfl rfl rfl rfl rfl ⟨rfl, rfl, rfl, rfl, rfl⟩ rfl rfl rfl rfl rfl (by kernel_rfl) Try.func4 (by kernel_rfl)
    (of_decide_eq_true (by kernel_rfl)) (by unfold Func.isWrapper; first | (rw [if_pos (by decide +kernel)]; kernel_rfl) | (rw [if_neg (by decide +kernel)]; exact ⟨rfl, rfl⟩))
    (fun os started H enc _ => lifted os started H enc)
#print axioms proved
end Go.Proofs.Ytmjliomgkcmjaaa.recordRows
