/-
  The walks of the program's own writers: Kind, Flag, Name, Base, Map, ring.
-/
import Derived.Test.YtmjliomgkcmjaaaRecNum
import Derived.Test.YtmjliomgkcmjaaaShapeRd
namespace Go.Proofs.Ytmjliomgkcmjaaa.RecW
open Go.RowKit Shp IntW WideW CovW ShpW
set_option linter.all false

theorem wint_any (n : Nat) (x : Int) (K : Nat) (bs : Byts) (w : World) (hK : K = 1 ∨ K = 2 ∨ K = 4) (hx : 0 ≤ x ∧ x ≤ 4294967296) (h : Wr w n bs) (hl : bs.length ≤ 900000) :
    Calls Try.prog 44 #[.pointer (some ⟨n, 0, none⟩), .int .i64 x, .int .i64 K] w fun e w' => e = .returned (.tuple #[]) ∧ Wr w' n (bs ++ be K x) ∧ Kw n w w' := by
  obtain ⟨m, rfl⟩ := Int.eq_ofNat_of_zero_le hx.1
  exact wnum_any n m K bs w hK (by omega) h hl

set_option maxHeartbeats 1000000 in
theorem wkind_any (n : Nat) (x : Int) (bs : Byts) (w : World) (hx : 0 ≤ x ∧ x ≤ 4294967296) (h : Wr w n bs) (hl : bs.length ≤ 900000) :
    Calls Try.prog 21 #[.pointer (some ⟨n, 0, none⟩), .int .i64 x] w fun e w' => e = .returned (.tuple #[]) ∧ Wr w' n (bs ++ be 1 x) ∧ Kw n w w' := by
  go_enter Try.func21, Try.ntmps21
  go_wp2_with fail
  refine (wint_any n x 1 bs _ (.inl rfl) hx h hl).mono ?_
  rintro _ w2 ⟨rfl, h2, k2⟩
  go_wp2_with fail
  exact bodyPost_end (v := .tuple #[]) (by simp [results, Try.results21, go_sem]) rfl ⟨rfl, h2, k2⟩

set_option maxHeartbeats 1000000 in
theorem wflag_any (n : Nat) (b : Bool) (bs : Byts) (w : World) (h : Wr w n bs) (hl : bs.length ≤ 900000) :
    Calls Try.prog 26 #[.pointer (some ⟨n, 0, none⟩), .bool b] w fun e w' => e = .returned (.tuple #[]) ∧ Wr w' n (bs ++ be 1 (flagOf b)) ∧ Kw n w w' := by
  cases b
  all_goals
    go_enter Try.func26, Try.ntmps26
    go_wp2_with fail
  · refine (wint_any n 0 1 bs _ (.inl rfl) (by omega) h hl).mono ?_
    rintro _ w2 ⟨rfl, h2, k2⟩
    go_wp2_with fail
    exact bodyPost_end (v := .tuple #[]) (by simp [results, Try.results26, go_sem]) rfl ⟨rfl, h2, k2⟩
  · refine (wint_any n 1 1 bs _ (.inl rfl) (by omega) h hl).mono ?_
    rintro _ w2 ⟨rfl, h2, k2⟩
    go_wp2_with fail
    exact bodyPost_end (v := .tuple #[]) (by simp [results, Try.results26, go_sem]) rfl ⟨rfl, h2, k2⟩

set_option maxHeartbeats 1000000 in
theorem wname_any (n : Nat) (x y : Int) (bs : Byts) (w : World) (hx : 0 ≤ x ∧ x ≤ 4294967296) (hy : 0 ≤ y ∧ y ≤ 4294967296) (h : Wr w n bs) (hl : bs.length ≤ 800000) :
    Calls Try.prog 23 #[.pointer (some ⟨n, 0, none⟩), .agg #[.int .i64 x, .int .i64 y]] w fun e w' => e = .returned (.tuple #[]) ∧ Wr w' n (bs ++ putName x y) ∧ Kw n w w' := by
  have lw := h.lt
  have h1 := h.keep (Ba (o := .cells #[.int .i64 x, .int .i64 y] 30) B0)
  have b1 := Blk.new w 30 #[.int .i64 x, .int .i64 y]
  have k1 : Kw n w (w.alloc (.cells #[.int .i64 x, .int .i64 y] 30)) := (Kw.refl n w).alloc lw _
  go_enter Try.func23, Try.ntmps23
  go_upto_region 1 with fail
  generalize w.alloc (.cells #[.int .i64 x, .int .i64 y] 30) = w1 at *
  have a0 := b1.cell 0
  simp at a0
  go_wp2_with fail
  refine (wint_any n x 1 bs _ (.inl rfl) hx h1 (by omega)).mono ?_
  rintro _ w2 ⟨rfl, h2, k2⟩
  have b2 := k2.blk b1 (by omega) (by decide)
  have a1 := b2.cell 1
  simp at a1
  go_wp2_with fail
  refine (wint_any n y 2 _ _ (.inr (.inl rfl)) hy h2 (by simp [be_len]; omega)).mono ?_
  rintro _ w3 ⟨rfl, h3, k3⟩
  go_wp2_with fail
  refine bodyPost_end (v := .tuple #[]) (by simp [results, Try.results23, go_sem]) rfl ⟨rfl, ?_, (k1.trans k2).trans k3⟩
  unfold putName
  rw [← List.append_assoc]
  exact h3

set_option maxHeartbeats 1000000 in
theorem wbase_any (n : Nat) (x : Int) (bs : Byts) (w : World) (hx : BaseMay x) (h : Wr w n bs) (hl : bs.length ≤ 800000) :
    Calls Try.prog 24 #[.pointer (some ⟨n, 0, none⟩), .int .i64 x] w fun e w' => e = .returned (.tuple #[]) ∧ Wr w' n (bs ++ be 4 (x + 1)) ∧ Kw n w w' := by
  obtain ⟨h0, h1⟩ := hx
  obtain ⟨y, hy⟩ : ∃ y, x + 1 = y := ⟨_, rfl⟩
  rw [hy]
  have HY' : IntKind.i64.wrap (x - -1) = y := by rw [IntKind.wrap_i64]; omega
  go_enter Try.func24, Try.ntmps24
  go_wp2_with fail
  refine (wint_any n y 4 bs _ (.inr (.inr rfl)) (by omega) h (by omega)).mono ?_
  rintro _ w2 ⟨rfl, h2, k2⟩
  go_wp2_with fail
  exact bodyPost_end (v := .tuple #[]) (by simp [results, Try.results24, go_sem]) rfl ⟨rfl, h2, k2⟩

set_option maxRecDepth 100000 in
set_option maxHeartbeats 4000000 in
theorem wring_any (n : Nat) (v : Value) (ps : List P2) (bs : Byts) (w : World) (hr : RdP w n v ps) (hp : ∀ p ∈ ps, Geom.Pt p.1 p.2) (hlen : ps.length ≤ 255) (h : Wr w n bs) (hl : bs.length ≤ 700000) :
    Calls Try.prog 65 #[.pointer (some ⟨n, 0, none⟩), v] w fun e w' => e = .returned (.tuple #[]) ∧ Wr w' n (bs ++ putRing ps) ∧ Kw n w w' := by
  obtain ⟨A, c, rfl, -, hc⟩ := id hr
  obtain ⟨m, hm⟩ : ∃ m, ps.length = m := ⟨_, rfl⟩
  rw [hm] at hc hlen ⊢
  have HM := Lib.hid hm
  clear hm hr
  go_enter Try.func65, Try.ntmps65
  go_wp2_with fail
  refine (wint_any n (m : Int) 1 bs _ (.inl rfl) (by omega) h (by omega)).mono ?_
  rintro _ w2 ⟨rfl, h2, k2⟩
  go_wp2_with fail
  go_loopw [12] (fun i W => ∃ k : Nat, k ≤ m ∧ i = .int .i64 k ∧ Wr W n (bs ++ be 1 (m : Int) ++ (ps.take k).flatMap putPt) ∧ Kw n w W) (fun i _ => m - (intOf i).toNat)
  case atStart => exact ⟨0, Nat.zero_le _, rfl, by simpa using h2, k2⟩
  case round =>
    obtain ⟨k, hk, rfl, hW, hF⟩ := hrel
    by_cases hlt : k < m
    case neg =>
      obtain rfl : k = m := by omega
      go_wp2_with fail
      refine bodyPost_end (v := .tuple #[]) (by simp [results, Try.results65, go_sem]) rfl ⟨rfl, ?_, hF⟩
      unfold putRing
      rw [HM.out, ← List.append_assoc]
      rw [List.take_of_length_le (by rw [HM.out]; exact Nat.le_refl _)] at hW
      exact hW
    obtain ⟨b, off, rfl, hb, hcs⟩ := hc (by omega)
    obtain ⟨c0, c1⟩ := hcs k hlt
    have hB := hF.toBelow (Nat.le_refl n)
    have d0 := (hB.cell (p := ⟨b, off + k * 2, none⟩) hb).trans c0
    have d1 := (hB.cell (p := ⟨b, off + k * 2 + 1, none⟩) hb).trans c1
    have hin : k < ps.length := by have := HM.out; omega
    have e0 : at_ ps k = ps[k] := by simp [at_, hin]
    obtain ⟨x, hx⟩ : ∃ x, (at_ ps k).1 = x := ⟨_, rfl⟩
    obtain ⟨y, hy⟩ : ∃ y, (at_ ps k).2 = y := ⟨_, rfl⟩
    have hpt := hp ps[k] (List.getElem_mem hin)
    rw [← e0] at hpt
    obtain ⟨q0, q1, q2, q3⟩ := hpt
    rw [hx] at d0 q0 q1
    rw [hy] at d1 q2 q3
    have HE := Lib.hid (show ps[k] = (x, y) by rw [← e0, ← hx, ← hy])
    clear hx hy e0 c0 c1 hcs
    have lw := hW.lt
    have len := flat_len putPt (ps.take k) 8 (fun p _ => by simp [putPt, be_len])
    have hl2 : (bs ++ be 1 (m : Int) ++ (ps.take k).flatMap putPt).length ≤ 800000 := by
      have := ltake_len ps k
      have := HM.out
      simp only [List.length_append, be_len]
      omega
    have HL := Lib.hid hl2
    clear hl2 len
    obtain ⟨out, ho⟩ : ∃ out, bs ++ be 1 (m : Int) ++ (ps.take k).flatMap putPt = out := ⟨_, rfl⟩
    rw [ho] at hW HL
    have HO := Lib.hid ho
    clear ho
    go_wp2_with fail
    have B1 := Ba (o := .cells #[.int .i64 x, .int .i64 y] 24) (w := wr) B0
    have b1 := Blk.new wr 24 #[.int .i64 x, .int .i64 y]
    have k1 := hF.alloc lw (.cells #[.int .i64 x, .int .i64 y] 24)
    have h1 := hW.keep B1
    generalize wr.alloc (.cells #[.int .i64 x, .int .i64 y] 24) = w3 at *
    refine (wint_any n x 4 _ _ (.inr (.inr rfl)) (by omega) h1 (by have := HL.out; omega)).mono ?_
    rintro _ w4 ⟨rfl, h4, k4⟩
    have b4 := k4.blk b1 (by omega) (by decide)
    have a1 := b4.cell 1
    simp at a1
    go_wp2_with fail
    refine (wint_any n y 4 _ _ (.inr (.inr rfl)) (by omega) h4 (by have := HL.out; simp [be_len]; omega)).mono ?_
    rintro _ w5 ⟨rfl, h5, k5⟩
    go_wp2_with fail
    refine ⟨⟨k + 1, by omega, by simp only [Int.natCast_add, Int.cast_ofNat_Int], ?_, (k1.trans k4).trans k5⟩, by simp [intOf]; omega⟩
    rw [flat_snoc _ _ _ hin, ← List.append_assoc, HO.out, HE.out]
    unfold putPt
    rw [← List.append_assoc]
    exact h5
end Go.Proofs.Ytmjliomgkcmjaaa.RecW
