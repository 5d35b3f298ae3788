/-
  The walk of the program's own writer: Text; the whole record.
-/
import Derived.Test.YtmjliomgkcmjaaaRecWrC
namespace Go.Proofs.Ytmjliomgkcmjaaa.RecW
open Go.RowKit Shp IntW WideW CovW ShpW
set_option linter.all false

theorem conv_bytes {w : World} {base c : Nat} {A : Option Addr} {l : Byts} (h : w.ownsRow base 5 1 (.slice A l.length c) l.length (bCells l)) (h0 : 0 < l.length) : (convert 45 9 (.slice A l.length c)).run Try.prog w = .ok (strV l) w := by
  rcases h.2 with ⟨-, h1⟩ | ⟨g, cap, cur, h1, -⟩
  · omega
  · simp only [Value.slice.injEq] at h1
    obtain ⟨rfl, -, rfl⟩ := h1
    exact run_convert_bytes_back (P := Try.prog) w 45 9 5 ⟨g, 0, none⟩ c l Try.underlying45 Try.underlying5 Try.underlying9 (fun j hj => by
      rw [Addr.add_mid, Nat.zero_add, h.cellAt j (by omega), bCells_at hj]
      rfl)

set_option maxHeartbeats 1000000 in
theorem text_any (n : Nat) (bs : Byts) (w : World) (h : Wr w n bs) (h0 : 0 < bs.length) :
    Calls Try.prog 27 #[.pointer (some ⟨n, 0, none⟩)] w fun e w' => e = .returned (strV bs) ∧ w' = w := by
  obtain ⟨v, hB, hR⟩ := h
  obtain ⟨A, c, rfl⟩ := row_slice hR
  have CV := conv_bytes hR h0
  have g0 := hB.cell 0
  simp at g0
  go_enter Try.func27, Try.ntmps27
  go_wp2_with fail
  go_ret
  exact ⟨rfl, rfl⟩

/-- A record's value reads as r, its rows in blocks below B. -/
def RdRec (w : World) (B : Nat) (v : Value) (r : RecV) : Prop := ∃ v1 v2 vo, v = .agg #[.int .i64 r.kind, .int .i64 r.node, .int .i64 r.sq, .int .i64 r.base, .bool r.commit, .int .i64 r.ep, v1, v2, vo] ∧ RdI w B v1 r.ss ∧ RdI w B v2 r.os ∧ RdOs w B vo r.ops

set_option maxRecDepth 100000 in
set_option maxHeartbeats 4000000 in
theorem write_any (v : Value) (r : RecV) (w : World) (hr : RdRec w w.heap.size v r) (hm : RMay r) :
    Calls Try.prog 11 #[v] w fun e w' => e = .returned (strV (putRec r)) ∧ Below w.heap.size w w' := by
  obtain ⟨v1, v2, vo, rfl, hs, ho, hops⟩ := hr
  obtain ⟨kind, node, sq, base, commit, ep, ss, os, ops⟩ := r
  dsimp only at *
  obtain ⟨A1, c1, rfl⟩ := rdi_form hs
  obtain ⟨A2, c2, rfl⟩ := rdi_form ho
  obtain ⟨A3, c3, rfl⟩ := hops.form
  obtain ⟨w1, hw1⟩ : ∃ w1, (w.alloc (.cells #[.int .i64 kind, .int .i64 node, .int .i64 sq, .int .i64 base, .bool commit, .int .i64 ep, .slice A1 ss.length c1, .slice A2 os.length c2, .slice A3 ops.length c3] 38)).alloc (.cells #[.slice none 0 0] 61) = w1 := ⟨_, rfl⟩
  have B1 : Below w.heap.size w w1 := by rw [← hw1]; exact Ba (Ba B0)
  obtain ⟨g, hg⟩ : ∃ g, w.heap.size = g := ⟨_, rfl⟩
  obtain ⟨n, hn⟩ : ∃ n, g + 1 = n := ⟨_, rfl⟩
  have hgn : g ≠ n := by omega
  have b1 : Blk w1 g 38 #[.int .i64 kind, .int .i64 node, .int .i64 sq, .int .i64 base, .bool commit, .int .i64 ep, .slice A1 ss.length c1, .slice A2 os.length c2, .slice A3 ops.length c3] := by
    rw [← hw1, ← hg]; exact Blk.alloc (Blk.new _ _ _) _
  have W1 : Wr w1 n [] := by
    refine ⟨.slice none 0 0, ?_, World.ownsRow_nil _ _ _ _⟩
    rw [← hw1, ← hn, ← hg]; exact Blk.new' _ _ _ (by simp)
  have s1 := (hs.below B1).more (show w.heap.size ≤ n by omega)
  have o1 := (ho.below B1).more (show w.heap.size ≤ n by omega)
  have p1 := (hops.below B1).more (show w.heap.size ≤ n by omega)
  have hgle : w.heap.size ≤ n := by omega
  have HGLE := Lib.hid hgle
  have HW := Lib.hid hw1
  have HG := Lib.hid hg
  have HN := Lib.hid hn
  have HRM := Lib.hid hm
  clear hgle hs ho hops
  have k5 : kind = 0 ∨ kind = 1 ∨ kind = 2 ∨ kind = 3 ∨ kind = 4 := by
    rcases hm with h | h | h | h
    · exact .inl h.1
    · rcases h.1 with h | h
      · exact .inr (.inl h)
      · exact .inr (.inr (.inl h))
    · exact .inr (.inr (.inr (.inl h.1)))
    · exact .inr (.inr (.inr (.inr h.1)))
  clear hm
  go_enter Try.func11, Try.ntmps11
  go_upto_region 2 with fail
  have a0 := b1.cell 0
  simp at a0
  go_wp2_with fail
  refine (wkind_any n kind [] _ (by omega) W1 (by simp)).mono ?_
  rintro _ w2 ⟨rfl, W2, k2⟩
  rw [List.nil_append] at W2
  have b2 := k2.blk b1 hgn (by decide)
  have hB2 := k2.toBelow (Nat.le_refl n)
  have s2 := s1.below hB2
  have o2 := o1.below hB2
  have p2 := p1.below hB2
  have d0 := b2.cell 0
  have d1 := b2.cell 1
  have d2 := b2.cell 2
  have d3 := b2.cell 3
  have d4 := b2.cell 4
  have d5 := b2.cell 5
  have d6 := b2.cell 6
  have d7 := b2.cell 7
  have d8 := b2.cell 8
  simp at d0 d1 d2 d3 d4 d5 d6 d7 d8
  have BE : ∀ w' : World, Kw n w1 w' → Below w.heap.size w w' := fun _ k => B1.trans (k.toBelow HGLE.out)
  have HBE := Lib.hid BE
  clear s1 o1 p1 a0 b1 BE
  rcases k5 with rfl | rfl | rfl | rfl | rfl
  · have hm : MapOk ep ss os 8 := by
      rcases HRM.out with h | h | h | h
      · exact h.2.1
      · exact absurd h.1 (by simp)
      · exact absurd h.1 (by simp)
      · exact absurd h.1 (by simp)
    obtain ⟨p1, p2', p3, p4, p5⟩ := may_map hm
    have HP4 := Lib.hid p4
    have HP5 := Lib.hid p5
    have HP2 := Lib.hid (And.intro p2' p3)
    clear p4 p5 p2' p3
    go_wp2_with fail
    refine (wmap_any n ep _ _ ss os _ _ s2 o2 (by omega) (by have := HP2.out; omega) (by have := HP2.out; omega) HP4.out (fun x hx => by have := HP5.out x hx; omega) W2 (by simp [be_len])).mono ?_
    rintro _ w3 ⟨rfl, W3, k3⟩
    go_wp2_with fail
    refine (text_any n _ w3 W3 (by simp only [List.length_append, be_len]; omega)).mono ?_
    rintro _ _ ⟨rfl, rfl⟩
    go_wp2_with fail
    refine bodyPost_ret (v := strV (be 1 0 ++ putMap ep ss os)) (by simp [results, Try.results11, go_sem]) rfl ⟨?_, HBE.out _ (k2.trans k3)⟩
    unfold putRec
    rw [if_pos rfl]
  · have hm : NameMay node sq ∧ BaseMay base ∧ OpsMay ops := by
      rcases HRM.out with h | h | h | h
      · exact absurd h.1 (by simp)
      · exact ⟨h.2.1, h.2.2.1, h.2.2.2.1⟩
      · exact absurd h.1 (by simp)
      · exact absurd h.1 (by simp)
    obtain ⟨⟨hn0, hn1⟩, hb0, hop⟩ := hm
    have HOP := Lib.hid hop
    have HBM := Lib.hid hb0
    clear hop hb0
    go_wp2_with fail
    refine (wname_any n node sq _ _ (by omega) (by omega) W2 (by simp [be_len])).mono ?_
    rintro _ w3 ⟨rfl, W3, k3⟩
    have b3 := k3.blk b2 hgn (by decide)
    have p3 := p2.below (k3.toBelow (Nat.le_refl n))
    have e3 := b3.cell 3
    simp at e3
    go_wp2_with fail
    refine (wbase_any n base _ _ HBM.out W3 (by simp [be_len, putName])).mono ?_
    rintro _ w4 ⟨rfl, W4, k4⟩
    have b4 := k4.blk b3 hgn (by decide)
    have p4 := p3.below (k4.toBelow (Nat.le_refl n))
    have e8 := b4.cell 8
    simp at e8
    go_wp2_with fail
    refine (wops_any n _ ops _ _ p4 HOP.out.1.2 HOP.out.2.1 W4 (by simp [be_len, putName])).mono ?_
    rintro _ w5 ⟨rfl, W5, k5⟩
    go_wp2_with fail
    refine (text_any n _ w5 W5 (by simp only [List.length_append, be_len]; omega)).mono ?_
    rintro _ _ ⟨rfl, rfl⟩
    go_wp2_with fail
    refine bodyPost_ret (v := strV (be 1 1 ++ putName node sq ++ be 4 (base + 1) ++ putOps ops)) (by simp [results, Try.results11, go_sem]) rfl ⟨?_, HBE.out _ (((k2.trans k3).trans k4).trans k5)⟩
    unfold putRec
    dsimp only
    rw [if_neg (by simp), if_pos (by simp)]
    simp only [List.append_assoc]
  · have hm : NameMay node sq ∧ BaseMay base ∧ OpsMay ops := by
      rcases HRM.out with h | h | h | h
      · exact absurd h.1 (by simp)
      · exact ⟨h.2.1, h.2.2.1, h.2.2.2.1⟩
      · exact absurd h.1 (by simp)
      · exact absurd h.1 (by simp)
    obtain ⟨⟨hn0, hn1⟩, hb0, hop⟩ := hm
    have HOP := Lib.hid hop
    have HBM := Lib.hid hb0
    clear hop hb0
    go_wp2_with fail
    refine (wname_any n node sq _ _ (by omega) (by omega) W2 (by simp [be_len])).mono ?_
    rintro _ w3 ⟨rfl, W3, k3⟩
    have b3 := k3.blk b2 hgn (by decide)
    have p3 := p2.below (k3.toBelow (Nat.le_refl n))
    have e3 := b3.cell 3
    simp at e3
    go_wp2_with fail
    refine (wbase_any n base _ _ HBM.out W3 (by simp [be_len, putName])).mono ?_
    rintro _ w4 ⟨rfl, W4, k4⟩
    have b4 := k4.blk b3 hgn (by decide)
    have p4 := p3.below (k4.toBelow (Nat.le_refl n))
    have e8 := b4.cell 8
    simp at e8
    go_wp2_with fail
    refine (wops_any n _ ops _ _ p4 HOP.out.1.2 HOP.out.2.1 W4 (by simp [be_len, putName])).mono ?_
    rintro _ w5 ⟨rfl, W5, k5⟩
    go_wp2_with fail
    refine (text_any n _ w5 W5 (by simp only [List.length_append, be_len]; omega)).mono ?_
    rintro _ _ ⟨rfl, rfl⟩
    go_wp2_with fail
    refine bodyPost_ret (v := strV (be 1 2 ++ putName node sq ++ be 4 (base + 1) ++ putOps ops)) (by simp [results, Try.results11, go_sem]) rfl ⟨?_, HBE.out _ (((k2.trans k3).trans k4).trans k5)⟩
    unfold putRec
    dsimp only
    rw [if_neg (by simp), if_pos (by simp)]
    simp only [List.append_assoc]
  · have hm : NameMay node sq := by
      rcases HRM.out with h | h | h | h
      · exact absurd h.1 (by simp)
      · exact absurd h.1 (by simp)
      · exact h.2.1
      · exact absurd h.1 (by simp)
    obtain ⟨hn0, hn1⟩ := hm
    go_wp2_with fail
    refine (wname_any n node sq _ _ (by omega) (by omega) W2 (by simp [be_len])).mono ?_
    rintro _ w3 ⟨rfl, W3, k3⟩
    have b3 := k3.blk b2 hgn (by decide)
    have e3 := b3.cell 4
    simp at e3
    go_wp2_with fail
    refine (wflag_any n commit _ _ W3 (by simp [be_len, putName])).mono ?_
    rintro _ w4 ⟨rfl, W4, k4⟩
    go_wp2_with fail
    refine (text_any n _ w4 W4 (by simp only [List.length_append, be_len]; omega)).mono ?_
    rintro _ _ ⟨rfl, rfl⟩
    go_wp2_with fail
    refine bodyPost_ret (v := strV (be 1 3 ++ putName node sq ++ be 1 (flagOf commit))) (by simp [results, Try.results11, go_sem]) rfl ⟨?_, HBE.out _ ((k2.trans k3).trans k4)⟩
    unfold putRec
    dsimp only
    rw [if_neg (by simp), if_neg (by simp), if_pos rfl]
    simp only [List.append_assoc]
  · have hm : NameMay node sq := by
      rcases HRM.out with h | h | h | h
      · exact absurd h.1 (by simp)
      · exact absurd h.1 (by simp)
      · exact absurd h.1 (by simp)
      · exact h.2.1
    obtain ⟨hn0, hn1⟩ := hm
    go_wp2_with fail
    refine (wname_any n node sq _ _ (by omega) (by omega) W2 (by simp [be_len])).mono ?_
    rintro _ w3 ⟨rfl, W3, k3⟩
    go_wp2_with fail
    refine (text_any n _ w3 W3 (by simp only [List.length_append, be_len]; omega)).mono ?_
    rintro _ _ ⟨rfl, rfl⟩
    go_wp2_with fail
    refine bodyPost_ret (v := strV (be 1 4 ++ putName node sq)) (by simp [results, Try.results11, go_sem]) rfl ⟨?_, HBE.out _ (k2.trans k3)⟩
    unfold putRec
    dsimp only
    rw [if_neg (by simp), if_neg (by simp), if_neg (by simp), if_pos rfl]
end Go.Proofs.Ytmjliomgkcmjaaa.RecW
