/-
  For every feature, number, place and box: where a ring begins, which way it goes and which ring comes first does not count: the law ShapeTurned returns true.
-/
import Derived.Test.YtnlmhccmemlhaaaRows
import Derived.Test.YtnlmhccmemlhaaaShapeAwake
import Derived.Test.YtnlmhccmemlhaaaShapeGeoC
import Derived.Test.YtnlmhccmemlhaaaShapeOpen
import Derived.Test.YtnlmhccmemlhaaaShapeTurnW
import Derived.WalkKit
import Derived.Deep.DeepCutAuto
import Derived.Deep.Light
import Derived.ProofKit
import Derived.OpenShut
import Derived.ShutString
import Derived.ChangeOld
import Derived.Below
import Derived.Lib.SmallJoins
namespace Go.Proofs.Ytnlmhccmemlhaaa.shapeTurned
open Go.ChangeShapes Go.WideShapes Go.ChangeAt Go.RowKit Go.Joins
open Go.ChangeMaps (open_string shut_string)
set_option linter.all false

theorem own : ownKnob Try.prog.godebug = none := by kernel_rfl
theorem laidOut : laidOutB Try.prog = true := by kernel_rfl

open WideW ShpW Shp
/-- The law's own feature, place and box. -/
def Own3 (W : World) (n : Nat) (id sh : Int) (v : Value) (p0 p1 y0 y1 y2 y3 : Int) : Prop :=
  Blk W n 24 #[.int .i64 id, .int .i64 sh, v] ∧ Blk W (n + 1) 26 #[.int .i64 p0, .int .i64 p1] ∧ Blk W (n + 1 + 1) 28 #[.int .i64 y0, .int .i64 y1, .int .i64 y2, .int .i64 y3]
theorem Own3.keep {W w' : World} {n : Nat} {id sh : Int} {v : Value} {p0 p1 y0 y1 y2 y3 : Int} (h : Own3 W n id sh v p0 p1 y0 y1 y2 y3) (hb : Below W.heap.size W w') : Own3 w' n id sh v p0 p1 y0 y1 y2 y3 := ⟨h.1.keep hb, h.2.1.keep hb, h.2.2.keep hb⟩
theorem Own3.cells {W : World} {n : Nat} {id sh : Int} {v : Value} {p0 p1 y0 y1 y2 y3 : Int} (h : Own3 W n id sh v p0 p1 y0 y1 y2 y3) :
    (W.cell? ⟨n, 0, none⟩ = some (.int .i64 id) ∧ W.cell? ⟨n, 1, none⟩ = some (.int .i64 sh) ∧ W.cell? ⟨n, 2, none⟩ = some v) ∧ (W.cell? ⟨n + 1, 0, none⟩ = some (.int .i64 p0) ∧ W.cell? ⟨n + 1, 1, none⟩ = some (.int .i64 p1)) ∧
    W.cell? ⟨n + 1 + 1, 0, none⟩ = some (.int .i64 y0) ∧ W.cell? ⟨n + 1 + 1, 1, none⟩ = some (.int .i64 y1) ∧ W.cell? ⟨n + 1 + 1, 2, none⟩ = some (.int .i64 y2) ∧ W.cell? ⟨n + 1 + 1, 3, none⟩ = some (.int .i64 y3) :=
  ⟨⟨h.1.cell 0, h.1.cell 1, h.1.cell 2⟩, ⟨h.2.1.cell 0, h.2.1.cell 1⟩, h.2.2.cell 0, h.2.2.cell 1, h.2.2.cell 2, h.2.2.cell 3⟩
theorem own3_new (w : World) (id sh : Int) (v : Value) (p0 p1 y0 y1 y2 y3 : Int) : Own3 (((w.alloc (.cells #[.int .i64 id, .int .i64 sh, v] 24)).alloc (.cells #[.int .i64 p0, .int .i64 p1] 26)).alloc (.cells #[.int .i64 y0, .int .i64 y1, .int .i64 y2, .int .i64 y3] 28)) w.heap.size id sh v p0 p1 y0 y1 y2 y3 :=
  ⟨Blk.alloc (Blk.alloc (Blk.new' _ _ _ rfl) _) _, Blk.alloc (Blk.new' _ _ _ (by simp)) _, Blk.new' _ _ _ (by simp)⟩
theorem turnAll_snoc (B : Nat) (rs : List (List P2)) (q : Nat) (hq : q < rs.length) : (turnAll B rs).take (rs.length - q) = (turnAll B rs).take (rs.length - (q + 1)) ++ [turn (B % (rg rs q).length) (rg rs q)] := by
  have e : rs.length - q = (rs.length - (q + 1)) + 1 := by omega
  have hl : rs.length - (q + 1) < (turnAll B rs).length := by simp [turnAll]; omega
  have e2 : rs.length - 1 - (rs.length - (q + 1)) = q := by omega
  rw [e, List.take_succ_eq_append_getElem hl]
  congr 2
  simp only [turnAll, List.getElem_map, List.getElem_reverse, e2, rg, List.getElem?_eq_getElem hq, Option.getD_some]
theorem turn_snoc (k j : Nat) (r : List P2) (hj : j < r.length) : (turn k r).take (j + 1) = (turn k r).take j ++ [at_ r ((k + r.length - j) % r.length)] := by
  rw [List.take_succ_eq_append_getElem (by rw [turn_len]; exact hj)]
  congr 2
  simp [turn]
theorem idx1 (a : Int) (n : Nat) (h : 0 < n) : (IntKind.u64.wrap a).tmod (n : Int) = (((IntKind.u64.wrap a).toNat % n : Nat) : Int) := by
  have h1 : 0 ≤ IntKind.u64.wrap a := by rw [IntKind.wrap_u64]; omega
  obtain ⟨b, hb⟩ := Int.eq_ofNat_of_zero_le h1
  rw [hb, Int.tmod_eq_emod_of_nonneg (by omega)]
  simp
theorem idx2 (k n j : Nat) (hj : j < n) : ((k : Int) + (n : Int) - (j : Int)).tmod (n : Int) = (((k + n - j) % n : Nat) : Int) := by
  rw [show (k : Int) + (n : Int) - (j : Int) = ((k + n - j : Nat) : Int) by omega, Int.tmod_eq_emod_of_nonneg (by omega)]
  simp
theorem PtRow.step {W w1 : World} {base bx : Nat} {t v' : Value} {ps : List P2} {p : P2} {o : Obj} {X : World} (hP : PtRow W base t ps) (hB : Below bx X W) (hb : bx ≤ base) (hs : bx ≤ W.heap.size)
    (hown : w1.ownsRow base 26 2 v' (ps.length + 1) (ptCells ps ++ [.int .i64 p.1, .int .i64 p.2])) (hg : (W.alloc o).grownBy w1 t.ownBlock) : PtRow w1 base v' (ps ++ [p]) ∧ Below bx X w1 := by
  refine ⟨?_, (Below.alloc hB hs o).grown hg (by simp; omega) fun k e => by have := (World.ownsRow.lt hP k e).1; omega⟩
  unfold PtRow
  rw [ptCells_snoc]
  simpa using hown
theorem pt_info : (Try.prog.info? 26).map (fun i => (i.zero, i.size, i.bytes)) = some (some (.agg #[.int .i64 0, .int .i64 0]), 2, 16) := by kernel_rfl
/-- Behind the append to the law's own rings and the store of it. -/
theorem RingRow.step {W w1 : World} {n : Nat} {v v' t : Value} {rs : List (List P2)} {r : List P2} {us : List Value} {cs : Array Value} {o : Obj} {X : World}
    (h1 : W.ownsRow (n + 1) 54 1 v rs.length us) (h2 : ∀ j, j < rs.length → ∃ u, us[j]? = some u ∧ PtRow W (n + 1) u (rg rs j)) (ht : PtRow W (n + 1) t r) (hb : Blk W n 24 cs) (hB : Below n X W)
    (hg : (W.alloc o).grownBy w1 v.ownBlock) (hn : w1.ownsRow (n + 1) 54 1 v' (rs.length + 1) (us ++ [t])) :
    Blk w1 n 24 cs ∧ Blk (w1.setCell ⟨n, 2, none⟩ v') n 24 (cs.setIfInBounds 2 v') ∧ RingRow (w1.setCell ⟨n, 2, none⟩ v') (n + 1) v' (rs ++ [r]) ∧ Below n X (w1.setCell ⟨n, 2, none⟩ v') := by
  have hl := hb.lt
  have hb1 : Blk w1 n 24 cs := (hb.alloc o).grown hg (fun e => by have := (World.ownsRow.lt h1 n e.symm).1; omega)
  refine ⟨hb1, hb1.set_ 2 v', ?_, ?_⟩
  · refine RingRow.far (a := ⟨n, 2, none⟩) (cs := cs) (g := 0) ?_ hb1 v'
    refine RingRow.snoc (W := W.alloc o) (h1.alloc o) (fun j hj => ?_) (World.ownsRow.alloc ht o) hg hn
    obtain ⟨u, k1, k2⟩ := h2 j hj
    exact ⟨u, k1, World.ownsRow.alloc k2 o⟩
  · refine Below.setCell (p := ⟨n, 2, none⟩) ?_ (Nat.le_refl n) v'
    exact (Below.alloc hB (by omega) o).grown hg (by simp; omega) fun k e => by have := (World.ownsRow.lt h1 k e).1; omega

set_option maxRecDepth 100000 in
set_option maxHeartbeats 8000000 in
theorem walk (a0f0 a0f1 : Int) (v0 : Value) (r0 : List (List Shp.P2)) (a1 : Int) (w1 : (Lit.int .i64 a1).wf = true) (a2f0 : Int) (w2f0 : (Lit.int .i64 a2f0).wf = true) (a2f1 : Int) (w2f1 : (Lit.int .i64 a2f1).wf = true) (a3f0 : Int) (w3f0 : (Lit.int .i64 a3f0).wf = true) (a3f1 : Int) (w3f1 : (Lit.int .i64 a3f1).wf = true) (a3f2 : Int) (w3f2 : (Lit.int .i64 a3f2).wf = true) (a3f3 : Int) (w3f3 : (Lit.int .i64 a3f3).wf = true) (w : World) (hr0 : ShpW.RdR w w.heap.size v0 r0) :
    Calls Try.prog 9 #[.agg #[.int .i64 a0f0, .int .i64 a0f1, v0], .int .i64 a1, .agg #[.int .i64 a2f0, .int .i64 a2f1], .agg #[.int .i64 a3f0, .int .i64 a3f1, .int .i64 a3f2, .int .i64 a3f3]] w fun e w' => e = .returned (.bool true) ∧ Below w.heap.size w w' := by
  have hrr := hr0
  obtain ⟨A, c, rfl, -⟩ := hrr
  go_enter Try.func9, Try.ntmps9
  go_wp2_with fail
  refine (awake_any _).mono ?_
  rintro e w1 ⟨rfl, hb⟩
  have O := (own3_new w a0f0 a0f1 (.slice A r0.length c) a2f0 a2f1 a3f0 a3f1 a3f2 a3f3).keep hb
  have B1 := Bt (Ba (Ba (Ba B0))) hb
  have hR := hr0.on B1
  clear hb w2f0 w2f1 w3f0 w3f1 w3f2 w3f3
  obtain ⟨⟨s0, s1, s2⟩, -, -⟩ := O.cells
  obtain ⟨mm, hm⟩ := has_bool (May a0f0 a0f1 r0)
  by_cases h2 : a0f1 = 2
  case neg =>
    go_wp2_with fail
    go_ret
    exact ⟨rfl, B1⟩
  case pos =>
    subst h2
    go_wp2_with fail
    refine (may_any a0f0 2 _ r0 mm _ hR hm.out).mono ?_
    rintro e w2 ⟨rfl, hb⟩
    have O := O.keep hb
    have hR := hR.on hb
    have B2 := Bt B1 hb
    clear hb B1 s0 s1 s2
    cases mm with
    | false =>
      go_wp2_with fail
      go_ret
      exact ⟨rfl, B2⟩
    | true =>
      have HM : May a0f0 2 r0 := hm.out.1 (by simp)
      clear hm
      obtain ⟨⟨s0, s1, s2⟩, -, -⟩ := O.cells
      go_upto_region 6 with fail
      have bG := Blk.new w2 24 #[.int .i64 a0f0, .int .i64 2, .slice none 0 0]
      have hl : 1 ≤ r0.length ∧ r0.length ≤ 4 := ⟨HM.2.2.1.1, HM.2.2.1.2.1⟩
      have lO := B2.size
      have s2' := (O.1.alloc (.cells #[.int .i64 a0f0, .int .i64 2, .slice none 0 0] 24)).cell 2
      have hB0 : Below w2.heap.size w2 (w2.alloc (.cells #[.int .i64 a0f0, .int .i64 2, .slice none 0 0] 24)) := Ba B0
      simp at s2'
      clear s0 s1 s2
      generalize w2.alloc (.cells #[.int .i64 a0f0, .int .i64 2, .slice none 0 0] 24) = w3 at *
      obtain ⟨hl1, hl2⟩ := hl
      have hw : IntKind.i64.wrap ((r0.length : Int) - 1) = (r0.length : Int) - 1 := by rw [IntKind.wrap_i64]; omega
      go_wp2_with fail
      obtain ⟨B, hB⟩ : ∃ B, (IntKind.u64.wrap a1).toNat = B := ⟨_, rfl⟩
      go_loopw [10] (fun i W => ∃ q : Nat, q ≤ r0.length ∧ i = .int .i64 ((q : Int) - 1) ∧ (∃ v, Blk W w2.heap.size 24 #[.int .i64 a0f0, .int .i64 2, v] ∧ RingRow W (w2.heap.size + 1) v ((turnAll B r0).take (r0.length - q))) ∧ Below w2.heap.size w2 W) (fun i _ => (intOf i + 1).toNat)
      case atStart => exact ⟨r0.length, Nat.le_refl _, rfl, ⟨_, bG, by rw [Nat.sub_self]; exact RingRow.nil _ _⟩, hB0⟩
      case round =>
        obtain ⟨q, hq, rfl, ⟨v, bV, hV⟩, hB2⟩ := hrel
        have O1 := O.keep hB2
        have hR1 := hR.below hB2
        clear s2' hB0 bG
        obtain ⟨⟨s0, s1, s2⟩, ⟨s4, s5⟩, s6, s7, s8, s9⟩ := O1.cells
        rcases q with _ | q
        · rw [Nat.sub_zero, List.take_of_length_le (by simp [turnAll])] at hV
          have HG := may_turn B HM
          have hRG := hV.rdr (by simp [turnAll]; omega) (fun r hr => by have h1 := (HG.2.2.1.2.2 r hr).2; have h2 := (bds_le 2).2.2; omega)
          have hR3 := hR.on hB2
          obtain ⟨x, cx, ox, oy⟩ : ∃ x cx, hasOut a0f0 2 r0 (a2f0, a2f1) x cx ∧ hasOut a0f0 2 (turnAll B r0) (a2f0, a2f1) x cx := by
            by_cases hp : Geom.Pt a2f0 a2f1
            · obtain ⟨x, hx⟩ := has_bool (HasP 2 r0 (a2f0, a2f1))
              exact ⟨x, 0, .inl ⟨⟨HM, hp⟩, hx.out, rfl⟩, .inl ⟨⟨HG, hp⟩, hx.out.trans (hasAll_turn B r0 _).symm, rfl⟩⟩
            · exact ⟨false, 400, .inr ⟨fun h => hp h.2, rfl, rfl⟩, .inr ⟨fun h => hp h.2, rfl, rfl⟩⟩
          obtain ⟨m, cm, om, oo⟩ : ∃ m cm, meetsOut a0f0 2 r0 (a3f0, a3f1, a3f2, a3f3) m cm ∧ meetsOut a0f0 2 (turnAll B r0) (a3f0, a3f1, a3f2, a3f3) m cm := by
            by_cases hp : BxB (a3f0, a3f1, a3f2, a3f3)
            · obtain ⟨x, hx⟩ := has_bool (MeetsP 2 r0 (a3f0, a3f1, a3f2, a3f3))
              exact ⟨x, 0, .inl ⟨⟨HM, hp⟩, hx.out, rfl⟩, .inl ⟨⟨HG, hp⟩, hx.out.trans (meetsAll_turn B r0 _).symm, rfl⟩⟩
            · exact ⟨false, 400, .inr ⟨fun h => hp h.2, rfl, rfl⟩, .inr ⟨fun h => hp h.2, rfl, rfl⟩⟩
          have OX := Lib.hid ox
          have OY := Lib.hid oy
          have OM := Lib.hid om
          have OO := Lib.hid oo
          clear ox oy om oo hV s6 s7 s8 s9
          go_wp2_with fail
          refine (Has_any a0f0 2 _ r0 (a2f0, a2f1) x cx _ hR3 OX.out).mono ?_
          rintro e w4 ⟨rfl, hb⟩
          have B3 := Bt B2 hB2
          have O1 := O1.keep hb
          have bV := bV.keep hb
          have hR3 := hR3.on hb
          have hRG := hRG.on hb
          have B3 := Bt B3 hb
          clear hb s0 s1 s2
          clear s4 s5 OX
          obtain ⟨-, ⟨s4, s5⟩, -⟩ := O1.cells
          have s0 := bV.cell 0
          have s1 := bV.cell 1
          have s2 := bV.cell 2
          simp at s0 s1 s2
          obtain ⟨A3, c3, eA3, -⟩ := id hRG
          subst eA3
          go_wp2_with fail
          refine (Has_any a0f0 2 _ (turnAll B r0) (a2f0, a2f1) x cx _ hRG OY.out).mono ?_
          rintro e w5 ⟨rfl, hb⟩
          have O1 := O1.keep hb
          have bV := bV.keep hb
          have hR3 := hR3.on hb
          have hRG := hRG.on hb
          have B3 := Bt B3 hb
          clear hb s0 s1 s2
          clear s4 s5 OY
          obtain ⟨⟨s0, s1, s2⟩, -, s6, s7, s8, s9⟩ := O1.cells
          go_wp2_with fail
          refine (Meets_any a0f0 2 _ r0 (a3f0, a3f1, a3f2, a3f3) m cm _ hR3 OM.out).mono ?_
          rintro e w6 ⟨rfl, hb⟩
          have O1 := O1.keep hb
          have bV := bV.keep hb
          have hR3 := hR3.on hb
          have hRG := hRG.on hb
          have B3 := Bt B3 hb
          clear hb s0 s1 s2
          clear s6 s7 s8 s9 OM
          obtain ⟨-, -, s6, s7, s8, s9⟩ := O1.cells
          have s0 := bV.cell 0
          have s1 := bV.cell 1
          have s2 := bV.cell 2
          simp at s0 s1 s2
          go_wp2_with fail
          refine (Meets_any a0f0 2 _ (turnAll B r0) (a3f0, a3f1, a3f2, a3f3) m cm _ hRG OO.out).mono ?_
          rintro e w7 ⟨rfl, hb⟩
          have O1 := O1.keep hb
          have bV := bV.keep hb
          have hR3 := hR3.on hb
          have hRG := hRG.on hb
          have B3 := Bt B3 hb
          clear hb s0 s1 s2
          clear s6 s7 s8 s9 OO
          have s0 := bV.cell 0
          have s1 := bV.cell 1
          have s2 := bV.cell 2
          simp at s0 s1 s2
          go_wp2_with fail
          refine (may_any a0f0 2 _ (turnAll B r0) true _ hRG ⟨fun _ => HG, fun _ => rfl⟩).mono ?_
          rintro e w8 ⟨rfl, hb⟩
          have B4 := Bt B3 hb
          clear hb s0 s1 s2
          go_wp2_with (first | (go_at_call 17; refine (num_any _ _).mono ?_; rintro e w' ⟨rfl, rfl⟩))
          all_goals go_ret
          all_goals exact ⟨by simp, B4⟩
        · have e1 : ((q + 1 : Nat) : Int) - 1 = (q : Int) := by omega
          rw [e1]
          obtain ⟨A', c', eA, -, hA⟩ := hR1
          cases eA
          obtain ⟨b, off, rfl, hb, hc⟩ := hA (by omega)
          obtain ⟨u, hu, hp⟩ := hc q (by omega)
          obtain ⟨A2, c2, rfl, hl3, hp2⟩ := hp
          have hmem : rg r0 q ∈ r0 := by unfold rg; rw [List.getElem?_eq_getElem (by omega)]; exact List.getElem_mem _
          have hn := HM.2.2.1.2.2 _ hmem
          have hn2 := bds_le 2
          have hlk : RingRow wr (w2.heap.size + 1) v ((turnAll B r0).take (r0.length - (q + 1))) := hV
          have hsn : (turnAll B r0).take (r0.length - q) = (turnAll B r0).take (r0.length - (q + 1)) ++ [turn (B % (rg r0 q).length) (rg r0 q)] := turnAll_snoc B r0 q (by omega)
          have HSN := Lib.hid hsn
          clear hsn hlk hA hc s0 s1 s4 s5 s6 s7 s8 s9
          generalize rg r0 q = r at *
          have hn3 : 3 ≤ r.length ∧ r.length ≤ 16 := by simp [bds] at hn; omega
          obtain ⟨hn31, hn32⟩ := hn3
          obtain ⟨b2, o2, rfl, hb2, hc2⟩ := hp2 (by omega)
          obtain ⟨kk, hkk⟩ : ∃ kk, B % r.length = kk := ⟨_, rfl⟩
          rw [hkk] at HSN
          have z1 : (IntKind.u64.wrap a1).tmod (r.length : Int) = (kk : Int) := by rw [← hkk, ← hB]; exact idx1 a1 _ (by omega)
          have hkl : kk < r.length := by rw [← hkk]; exact Nat.mod_lt _ (by omega)
          have lx := hB2.size
          have lg := bV.lt
          clear hn hn2 hkk hl3 hp2 hmem hw hl1 hl2
          obtain ⟨wx, rfl⟩ : ∃ wx, wx = wr := ⟨_, rfl⟩
          have HC2 := Lib.hid hc2
          clear hc2
          go_wp2_with fail
          clear s2 hu
          go_loopw [12, 13] (fun t j W => ∃ k : Nat, k ≤ r.length ∧ j = .int .i64 k ∧ PtRow W wx.heap.size t ((turn kk r).take k) ∧ Below wx.heap.size wx W) (fun _ j _ => r.length - (intOf j).toNat)
          case atStart => exact ⟨0, Nat.zero_le _, rfl, PtRow.nil _ _, B0⟩
          case round =>
            obtain ⟨k, hk, rfl, hP, hBx⟩ := hrel
            by_cases hkt : k < r.length
            · obtain ⟨d, hd⟩ : ∃ d, (kk + r.length - k) % r.length = d := ⟨_, rfl⟩
              have z2 : ((kk : Int) + (r.length : Int) - (k : Int)).tmod (r.length : Int) = (d : Int) := by rw [← hd]; exact idx2 kk _ k hkt
              have hdl : d < r.length := by rw [← hd]; exact Nat.mod_lt _ (by omega)
              have hts := turn_snoc kk k r hkt
              rw [hd] at hts
              have HTS := Lib.hid hts
              obtain ⟨px, py⟩ := HC2.out d hdl
              have px' := (hBx.cell (p := ⟨b2, o2 + d * 2, none⟩) (by show b2 < _; omega)).trans px
              have py' := (hBx.cell (p := ⟨b2, o2 + d * 2 + 1, none⟩) (by show b2 < _; omega)).trans py
              clear hd hts px py
              have hlk : ((turn kk r).take k).length = k := by rw [List.length_take, turn_len]; omega
              have sz := hBx.size
              have HP := Lib.hid hP
              have HBx := Lib.hid hBx
              have hown := World.ownsRow.alloc hP (Obj.cells #[.int .i64 (at_ r d).1, .int .i64 (at_ r d).2] 26)
              rw [hlk] at hown
              have hnews : ∀ j u, [Value.int .i64 (at_ r d).1, Value.int .i64 (at_ r d).2][j]? = some u → (wr.alloc (Obj.cells #[.int .i64 (at_ r d).1, .int .i64 (at_ r d).2] 26)).cell? ((⟨wr.heap.size, 0, none⟩ : Addr).add j) = some u := by
                intro j u hj
                match j, hj with
                | 0, hj => simp at hj; subst hj; simp [Addr.add]
                | 1, hj => simp at hj; subst hj; simp [Addr.add]
                | j + 2, hj => simp at hj
              have HO := Lib.hid hown
              have HN := Lib.hid hnews
              have HL := Lib.hid hlk
              clear hP hBx hown hnews hlk
              obtain ⟨i1, hi1, hy0, hy1, hy2⟩ := info_parts pt_info
              go_wp2_with (at_builtin; refine wpList_append_own _ rfl (.tmp 56) (.tmp 75) _ rfl wx.heap.size 26 i1 _ 2 16 Try.underlying54 hi1 hy0 hy1 hy2 rfl (by decide) _ k _ rfl HO.out ⟨wr.heap.size, 0, none⟩ 1 1 [.int .i64 (at_ r d).1, .int .i64 (at_ r d).2] rfl rfl HN.out (by intro u hu; simp at hu; rcases hu with rfl | rfl <;> rfl) (by unfold maxLen; omega) (by omega) (by simp; omega) ?_; intro v' w4 hown' hgrow _)
              have hs := PtRow.step (p := at_ r d) HP.out HBx.out (Nat.le_refl _) sz (by rw [HL.out]; exact hown') hgrow
              rw [← HTS.out] at hs
              obtain ⟨hs1, hs2⟩ := hs
              clear hown' hgrow HP HBx HO HN HL HTS px' py' z2
              go_roundw
              case rel => exact ⟨k + 1, by omega, by simp, hs1, hs2⟩
              case measure => simp [intOf]; omega
            · obtain rfl : k = r.length := by omega
              rw [List.take_of_length_le (by rw [turn_len]; exact Nat.le_refl _)] at hP
              have bV := bV.keep hBx
              have hV := hV.kept hBx
              have hP := hP.mono (show w2.heap.size + 1 ≤ wx.heap.size by omega)
              have hBw : Below w2.heap.size w2 wr := hB2.trans (hBx.mono lx)
              have sz := hBx.size
              obtain ⟨us, hu1, hu2⟩ := hV
              have s2 := bV.cell 2
              simp at s2
              have hlr : ((turnAll B r0).take (r0.length - (q + 1))).length = r0.length - (q + 1) := by rw [List.length_take]; simp [turnAll]
              obtain ⟨g1, k1, rfl⟩ : ∃ g1 k1, u12 = .slice (some ⟨g1, 0, none⟩) r.length k1 := by
                have hP' : wr.ownsRow (w2.heap.size + 1) 26 2 u12 ((r.length - 1) + 1) (ptCells (turn kk r)) := by
                  have h := hP
                  unfold PtRow at h
                  rw [turn_len] at h
                  rwa [show r.length - 1 + 1 = r.length by omega]
                obtain ⟨g1, k1, e⟩ := ownsRow_succ hP'
                exact ⟨g1, k1, by rw [e]; congr 1; omega⟩
              have hown := hu1.alloc (Obj.cells #[.slice (some ⟨g1, 0, none⟩) r.length k1] 54)
              have hnews : ∀ j u, [Value.slice (some ⟨g1, 0, none⟩) r.length k1][j]? = some u → (wr.alloc (Obj.cells #[.slice (some ⟨g1, 0, none⟩) r.length k1] 54)).cell? ((⟨wr.heap.size, 0, none⟩ : Addr).add j) = some u := by
                intro j u hj
                match j, hj with
                | 0, hj => simp at hj; subst hj; simp [Addr.add]
                | j + 1, hj => simp at hj
              rw [hlr] at hown
              have HO := Lib.hid hown
              have HN := Lib.hid hnews
              have HL := Lib.hid hlr
              have H1 := Lib.hid hu1
              have H2 := Lib.hid hu2
              have HP := Lib.hid hP
              have hl4 : r0.length ≤ 4 := HM.2.2.1.2.1
              clear hP hown hnews hlr hu1 hu2 z1
              obtain ⟨i0, hi0, hz0, hz1, hz2⟩ := info_parts pts_info
              go_wp2_with (at_builtin; refine wpList_append_own _ rfl (.tmp 78) (.tmp 80) _ rfl (w2.heap.size + 1) 54 i0 _ 1 24 Try.underlying22 hi0 hz0 hz1 hz2 rfl (by decide) _ (r0.length - (q + 1)) _ rfl HO.out ⟨wr.heap.size, 0, none⟩ 1 1 [.slice (some ⟨g1, 0, none⟩) r.length k1] rfl rfl HN.out (by intro u hu; simp at hu; subst hu; rfl) (by unfold maxLen; omega) (by omega) (by simp; omega) ?_; intro v' w4 hown' hgrow _; obtain ⟨g', cap', rfl⟩ := ownsRow_succ hown'; have R := RingRow.step H1.out H2.out HP.out bV hBw hgrow (by rw [HL.out]; exact hown'); obtain ⟨R1, R2, R3, R4⟩ := R; have f2 := R1.frozen 2; have c2' := R1.cell 2; simp at c2' R2; clear hown' hgrow)
              rw [← HSN.out] at R3
              go_roundw
              case rel => exact ⟨q, by omega, by go_num, ⟨_, R2, R3⟩, R4⟩
              case measure => simp [intOf]

set_option maxRecDepth 100000 in
theorem lifted (os : Os) (started : os.Started) (H : Type) (enc : TypeId × Value → H) :
    ReturnsInHanded {} Try.checked os 9 .any (Rows.shapeTurnedSpec.pre6 enc Try.prog Try.f9 Rows.shapeTurnedRow.domain false) (Rows.shapeTurnedSpec.post enc Try.prog Try.f9 false true false false) := by
  refine returnsInHanded_of_change (C := Try.checked) own started (by kernel_rfl) Try.func9
    (ChangeSpec.witness6 (enc := enc) (C := Try.checked) false ⟨#[], #[.agg #[.int .i64 0, .int .i64 0, .slice none 0 0], .int .i64 0, .agg #[.int .i64 0, .int .i64 0], .agg #[.int .i64 0, .int .i64 0, .int .i64 0, .int .i64 0]], []⟩ 8 (by kernel_rfl) (by kernel_rfl) (by kernel_rfl) (by kernel_rfl)) ?_
  intro W base args ds gs before hval0 hW hcnd _
  have hval : ∀ (j : Nat) t v, Try.f9.params[j]? = some t → args[j]? = some v → Value.okWide Try.prog W .any base t v := hval0
  have hW' := hW
  obtain ⟨p, q, hA0, hV, rfl, hfz, hnd⟩ := hW
  have hA : DataW.TrodAll enc Try.prog W 0 (fun _ => true) true Try.f9.params.toList args.toList ds p := hA0
  rw [Try.params9] at hA hval
  obtain ⟨v0, vs0, d0, ds0, p0, q0, hargs, rfl, rfl, h0, r0⟩ := trodAll_cons hA
  obtain ⟨v1, vs1, d1, ds1, p1, q1, rfl, rfl, rfl, h1, r1⟩ := trodAll_cons r0
  obtain ⟨v2, vs2, d2, ds2, p2, q2, rfl, rfl, rfl, h2, r2⟩ := trodAll_cons r1
  obtain ⟨v3, vs3, d3, ds3, p3, q3, rfl, rfl, rfl, h3, r3⟩ := trodAll_cons r2
  obtain ⟨rfl, rfl, rfl⟩ := trodAll_nil r3
  obtain rfl : args = #[v0, v1, v2, v3] := by cases args; simp_all
  obtain ⟨rfl, rfl⟩ := trodVars_none hV
  have k0 := h0
  have lt0 : ∀ x ∈ p0, x.block < W.heap.size := by obtain ⟨m, hm⟩ := k0; exact DataW.trod_lt m _ _ _ hm
  have k1 := h1
  have lt1 : ∀ x ∈ p1, x.block < W.heap.size := by obtain ⟨m, hm⟩ := k1; exact DataW.trod_lt m _ _ _ hm
  have k2 := h2
  have lt2 : ∀ x ∈ p2, x.block < W.heap.size := by obtain ⟨m, hm⟩ := k2; exact DataW.trod_lt m _ _ _ hm
  have k3 := h3
  have lt3 : ∀ x ∈ p3, x.block < W.heap.size := by obtain ⟨m, hm⟩ := k3; exact DataW.trod_lt m _ _ _ hm
  obtain ⟨c0f0, c0f1, c0f2, y0f0, y0f1, y0f2, m0, rfl, rfl, rfl, hy0f0, hy0f1, hy0f2⟩ := open_agg3 Try.underlying24 (by kernel_rfl) (by kernel_rfl) (hval 0 24 v0 rfl rfl) h0
  obtain ⟨a0f0, e0f0, rfl, w0f0⟩ := DataW.trod_int Try.underlying3 hy0f0
  simp at e0f0
  subst e0f0
  obtain ⟨a0f1, e0f1, rfl, w0f1⟩ := DataW.trod_int Try.underlying3 hy0f1
  simp at e0f1
  subst e0f1
  obtain ⟨rs0, hrs0⟩ := ShpW.open_rings hy0f2
  obtain ⟨a1, rfl, rfl, rfl, w1⟩ := open_int Try.underlying3 (hval 1 3 v1 rfl rfl) h1
  obtain ⟨c2f0, c2f1, y2f0, y2f1, m2, rfl, rfl, rfl, hy2f0, hy2f1⟩ := open_agg2 Try.underlying26 (by kernel_rfl) (by kernel_rfl) (hval 2 26 v2 rfl rfl) h2
  obtain ⟨a2f0, e2f0, rfl, w2f0⟩ := DataW.trod_int Try.underlying3 hy2f0
  simp at e2f0
  subst e2f0
  obtain ⟨a2f1, e2f1, rfl, w2f1⟩ := DataW.trod_int Try.underlying3 hy2f1
  simp at e2f1
  subst e2f1
  obtain ⟨c3f0, c3f1, c3f2, c3f3, y3f0, y3f1, y3f2, y3f3, m3, rfl, rfl, rfl, hy3f0, hy3f1, hy3f2, hy3f3⟩ := open_agg4 Try.underlying28 (by kernel_rfl) (by kernel_rfl) (hval 3 28 v3 rfl rfl) h3
  obtain ⟨a3f0, e3f0, rfl, w3f0⟩ := DataW.trod_int Try.underlying3 hy3f0
  simp at e3f0
  subst e3f0
  obtain ⟨a3f1, e3f1, rfl, w3f1⟩ := DataW.trod_int Try.underlying3 hy3f1
  simp at e3f1
  subst e3f1
  obtain ⟨a3f2, e3f2, rfl, w3f2⟩ := DataW.trod_int Try.underlying3 hy3f2
  simp at e3f2
  subst e3f2
  obtain ⟨a3f3, e3f3, rfl, w3f3⟩ := DataW.trod_int Try.underlying3 hy3f3
  simp at e3f3
  subst e3f3
  clear hA0 hval0
  refine (walk a0f0 a0f1 c0f2 rs0 a1 w1 a2f0 w2f0 a2f1 w2f1 a3f0 w3f0 a3f1 w3f1 a3f2 w3f2 a3f3 w3f3 W hrs0).mono fun e W' ⟨he, bel⟩ => ?_
  subst he
  exact ⟨_, rfl, _, _, _, [], _, [], hW', trodAll_mk1 (shut_bool Try.underlying4 _), (trodAll_cons_mk (Below.trod laidOut (by kernel_rfl) (of_decide_eq_true (by kernel_rfl)) k0 bel lt0) (trodAll_cons_mk (Below.trod laidOut (by kernel_rfl) (of_decide_eq_true (by kernel_rfl)) k1 bel lt1) (trodAll_cons_mk (Below.trod laidOut (by kernel_rfl) (of_decide_eq_true (by kernel_rfl)) k2 bel lt2) (trodAll_cons_mk (Below.trod laidOut (by kernel_rfl) (of_decide_eq_true (by kernel_rfl)) k3 bel lt3) trodAll_mk0)))), rfl, bel.frame _, fun h => by cases h⟩

theorem proved : Rows.ShapeTurnedSaid :=
  OpenClaim.holds_of_wide 9 Try.f9 rfl rfl rfl rfl rfl rfl rfl ⟨rfl, rfl, rfl, rfl, rfl⟩ rfl rfl rfl rfl rfl (by kernel_rfl) Try.func9 (by kernel_rfl)
    (of_decide_eq_true (by kernel_rfl)) (by unfold Func.isWrapper; first | (rw [if_pos (by decide +kernel)]; kernel_rfl) | (rw [if_neg (by decide +kernel)]; exact ⟨rfl, rfl⟩))
    (fun os started H enc _ => lifted os started H enc)
#print axioms proved
end Go.Proofs.Ytnlmhccmemlhaaa.shapeTurned
