/-
  The program's disk: a sector is set aside and written; a sync.
-/
import Derived.Test.YtabecmbeenmjaaaDkOwnB
import Derived.StillTailTactics
import Derived.Maps.OwnSet
namespace Go.Proofs.Ytabecmbeenmjaaa.DiskW
open Go.RowKit WideW Go.Maps
set_option linter.all false
variable {w : World} {d h m : Nat} {s : St}

theorem zeroE (w : World) : (zeroValue 74).run Try.prog w = .ok (secV zeros) w := by
  rw [zero_sec]
  have hi := zero_info
  cases hq : Try.prog.info? 74 with
  | none => rw [hq] at hi; cases hi
  | some i =>
    rw [hq] at hi
    simp only [Option.map_some, Option.some.injEq, Prod.mk.injEq] at hi
    simp [zeroValue, typeInfo, hq, hi.1]
theorem sec_size : (Try.prog.info? 74).map (·.size) = some 64 := by kernel_rfl
theorem cells_one (l : Bytes) : ∀ v ∈ cellsOf l, v.oneCell' = true := by
  intro v hv
  obtain ⟨x, _, rfl⟩ := List.mem_map.1 hv
  rfl
theorem load_sec (k : Dk w d h m s) {a : Nat} (ha : a < s.n) : (Instr.loadAt 74 (.pointer (some ⟨h, a * 64, none⟩))).run Try.prog w = .ok (secV (s.now a)) w := by
  rw [Nat.mul_comm]
  exact run_loadAt_mid w h (64 * a) 74 (cellsOf (s.now a)) _ (k.range ha) Try.underlying74 rfl (by rw [sec_size, cellsOf_len, k.ok.len])
theorem sec_cells (l : Bytes) (hl : l.length = 64) : ∃ cs : Array Value, secV l = .agg cs ∧ cs.size = 64 ∧ ∀ w : World,
    (storeCells ⟨w.heap.size, 0, none⟩ cs.toList 0).run Try.prog (w.alloc (.cells #[.int .u8 0, .int .u8 0, .int .u8 0, .int .u8 0, .int .u8 0, .int .u8 0, .int .u8 0, .int .u8 0, .int .u8 0, .int .u8 0, .int .u8 0, .int .u8 0, .int .u8 0, .int .u8 0, .int .u8 0, .int .u8 0, .int .u8 0, .int .u8 0, .int .u8 0, .int .u8 0, .int .u8 0, .int .u8 0, .int .u8 0, .int .u8 0, .int .u8 0, .int .u8 0, .int .u8 0, .int .u8 0, .int .u8 0, .int .u8 0, .int .u8 0, .int .u8 0, .int .u8 0, .int .u8 0, .int .u8 0, .int .u8 0, .int .u8 0, .int .u8 0, .int .u8 0, .int .u8 0, .int .u8 0, .int .u8 0, .int .u8 0, .int .u8 0, .int .u8 0, .int .u8 0, .int .u8 0, .int .u8 0, .int .u8 0, .int .u8 0, .int .u8 0, .int .u8 0, .int .u8 0, .int .u8 0, .int .u8 0, .int .u8 0, .int .u8 0, .int .u8 0, .int .u8 0, .int .u8 0, .int .u8 0, .int .u8 0, .int .u8 0, .int .u8 0] 74)) = .ok () (w.alloc (.cells cs 74)) :=
  ⟨(cellsOf l).toArray, rfl, by simp [cellsOf_len, hl], fun w => run_storeCells_new w 74 #[.int .u8 0, .int .u8 0, .int .u8 0, .int .u8 0, .int .u8 0, .int .u8 0, .int .u8 0, .int .u8 0, .int .u8 0, .int .u8 0, .int .u8 0, .int .u8 0, .int .u8 0, .int .u8 0, .int .u8 0, .int .u8 0, .int .u8 0, .int .u8 0, .int .u8 0, .int .u8 0, .int .u8 0, .int .u8 0, .int .u8 0, .int .u8 0, .int .u8 0, .int .u8 0, .int .u8 0, .int .u8 0, .int .u8 0, .int .u8 0, .int .u8 0, .int .u8 0, .int .u8 0, .int .u8 0, .int .u8 0, .int .u8 0, .int .u8 0, .int .u8 0, .int .u8 0, .int .u8 0, .int .u8 0, .int .u8 0, .int .u8 0, .int .u8 0, .int .u8 0, .int .u8 0, .int .u8 0, .int .u8 0, .int .u8 0, .int .u8 0, .int .u8 0, .int .u8 0, .int .u8 0, .int .u8 0, .int .u8 0, .int .u8 0, .int .u8 0, .int .u8 0, .int .u8 0, .int .u8 0, .int .u8 0, .int .u8 0, .int .u8 0, .int .u8 0] (cellsOf l).toArray (by rw [sec_size]; simp [cellsOf_len, hl]) (by simp [cellsOf_len, hl]) (all_oneCell_toArray (cells_one l))⟩

theorem key_of {a : Nat} (ha : a < s.n) (ok : s.Ok) : keyOf Try.prog 3 (.int .i64 (a : Int)) = some (.int .i64 (a : Int)) :=
  keyOf_int_mk Try.underlying3 (by have := ok.hi; simp [Lit.wf, IntKind.min, IntKind.max, IntKind.signed, IntKind.bits]; omega)
theorem MapOk.is {D : DataW Unit} (h : MapOk D s) (a : Nat) : has D (.int .i64 (a : Int)) = s.dirty a := by
  rw [Bool.eq_iff_iff, h.1]
  constructor
  · rintro ⟨j, e, hj⟩
    obtain rfl : a = j := by omega
    exact hj
  · intro e; exact ⟨a, rfl, e⟩
theorem MapOk.mark {D : DataW Unit} (h : MapOk D s) (hD : IsMap D) {a : Nat} (hn : s.now a = s.old a) : MapOk (D.put (.int .i64 (a : Int)) (.lit (.string (s.now a)))) (s.mark a) := by
  refine ⟨fun k => ?_, fun j hj z => ?_⟩
  · by_cases e : k = (a : Int)
    · subst e
      rw [has_put_same hD (by trivial)]
      simp only [true_iff]
      exact ⟨a, rfl, up_same _ _ _⟩
    · rw [has_put_other (by intro q; injection q with _ q; exact e q), h.1]
      constructor
      · rintro ⟨j, rfl, hj⟩
        exact ⟨j, rfl, by show up _ _ _ _ = _; rw [up_other _ _ _ (by omega)]; exact hj⟩
      · rintro ⟨j, rfl, hj⟩
        have hj : up s.dirty a true j = true := hj
        rw [up_other _ _ _ (by omega)] at hj
        exact ⟨j, rfl, hj⟩
  · by_cases e : j = a
    · subst e
      rw [atKey_put_same hD (by trivial), hn]; rfl
    · have hj : up s.dirty a true j = true := hj
      rw [up_other _ _ _ e] at hj
      rw [atKey_put_other (by intro q; injection q with _ q; omega), h.2 j hj]; rfl

/-- A sector is read, by value, in a region that draws its order. -/
theorem still_load {P : Program} {ops : Array Oper} {w : World} {Q : Act → Prop} {rest : List Oper} {o : Oper} {a : Act} {v : Value} {t : TypeId} {x : Operand} {p : Value} (hg : o.guard = none) (ho : o.op = .load t x) (hx : a.eval x = p)
    (hr : (Instr.loadAt t p).run P w = .ok v w) (h : wpStill P ops w Q rest (a.put o.dst v)) : wpStill P ops w Q (o :: rest) a := by
  refine wpStill_step (fun K hK => ?_)
  have hw : Region.wanted o (yielded ops a.tmps) = true := by simp [Region.wanted, hg]
  rw [if_pos hw]
  unfold Oper.still execOp
  simp only [ho, hx, hr, Sem.run_bind, Sem.run_pure, Result.andThen_ok, Oper.stillUpon_value]
  exact hK _ h

set_option maxRecDepth 100000 in
set_option maxHeartbeats 400000 in
/-- The sector is set aside: it was unsynced. -/
theorem unsync_dirty (w : World) (k : Dk w d h m s) (a : Nat) (ha : a < s.n) (hd : s.dirty a = true) :
    Calls Try.prog 26 #[.pointer (some ⟨d, 0, none⟩), .int .i64 (a : Int)] w fun e w' => e = .returned (.tuple #[]) ∧ Dk w' d h m (s.mark a) ∧ Fr (In3 d h m) w w' := by
  obtain ⟨D, hown, hD⟩ := k.mp
  have hkey := key_of ha k.ok
  have hhas := hD.is a
  rw [hd] at hhas
  have hat := hD.2 a hd
  have c3 := k.c3
  obtain ⟨cs, hcs, hsz, hst⟩ := sec_cells (s.old a) (k.ok.olen a)
  go_enter Try.func26, Try.ntmps26
  go_wp2_with (first | (at_lookup; refine wpList_lookup_own_ok _ rfl _ _ 58 rfl 3 74 keyed Try.underlying58 secR (zeroE _) (.lit (.string zeros)) [] (secR_mk zeros) m _ D rfl hown _ _ rfl hkey ?_; intro v ps hv; rw [hat] at hv; obtain rfl := secR_inv hv; rw [hhas, hcs]))
  refine bodyPost_ret (results_none rfl _ _ _) rfl ⟨rfl, ?_, Fr.of_below (Ba B0) _⟩
  rw [St.mark_id hd]
  exact k.alloc _

set_option maxRecDepth 100000 in
set_option maxHeartbeats 400000 in
/-- The sector is set aside: it was not unsynced. -/
theorem unsync_clean (w : World) (k : Dk w d h m s) (a : Nat) (ha : a < s.n) (hd : s.dirty a = false) :
    Calls Try.prog 26 #[.pointer (some ⟨d, 0, none⟩), .int .i64 (a : Int)] w fun e w' => e = .returned (.tuple #[]) ∧ Dk w' d h m (s.mark a) ∧ Fr (In3 d h m) w w' := by
  obtain ⟨D, hown, hD⟩ := k.mp
  have hkey := key_of ha k.ok
  have hhas := hD.is a
  rw [hd] at hhas
  have hat := fun z => atKey_of_not_has hhas z
  have c3 := k.c3
  obtain ⟨cs, hcs, hsz, hst⟩ := sec_cells zeros rfl
  go_enter Try.func26, Try.ntmps26
  go_upto_region 2 with (first | (at_lookup; refine wpList_lookup_own_ok _ rfl _ _ 58 rfl 3 74 keyed Try.underlying58 secR (zeroE _) (.lit (.string zeros)) [] (secR_mk zeros) m _ D rfl hown _ _ rfl hkey ?_; intro v ps hv; rw [hat] at hv; obtain rfl := secR_inv hv; rw [hhas, hcs]))
  clear hst hsz c3
  have B1 : Below w.heap.size w (w.alloc (.cells cs 74)) := Ba B0
  have k1 : Dk (w.alloc (.cells cs 74)) d h m s := k.alloc _
  have hown1 := hown.alloc (.cells cs 74)
  clear k hown
  generalize w.alloc (.cells cs 74) = W at *
  have c2 := k1.c2
  have c3 := k1.c3
  have hl := load_sec k1.drew ha
  obtain ⟨L, hL⟩ : ∃ L, L = secV (s.now a) := ⟨_, rfl⟩
  rw [← hL] at hl
  go_still_tail 12, (by kernel_rfl)
  change wpStill _ _ W.drew _ _ _
  refine still_load rfl rfl rfl hl ?_
  refine wpStill_nil ?_
  change wpList _ _ _ _ _ W.drew
  rw [hL] at hl
  subst hL
  have hn : s.cnt < maxLen := by have := s.cnt_le; have := k1.ok.hi; unfold maxLen; omega
  refine wpList_mapUpdate_own _ rfl _ _ _ 58 rfl 3 74 keyed Try.underlying58 secR m s.cnt D rfl hown1.drew hn _ _ _ rfl rfl hkey _ [] (secR_mk _) ?_
  intro w2 hown2 hg2
  have F2 : Fr (In3 d h m) w w2 := (Fr.of_below (Bd B1) _).trans (Fr.of_grown hg2 fun k e => by cases e; exact .inr (.inr rfl))
  have b2 : Blk w2 d 65 _ := k1.blk.drew.grown hg2 (by have := k1.d_ne_m; simpa using this)
  have r2 : Row w2 h 74 (64 * s.n) (sc s.now) := row_block k1.row (hg2.block h k1.h_lt (by have := k1.h_ne_m; simpa using this))
  have m2 : MapIs w2 m (s.mark a) := ⟨_, by rw [St.cnt_mark ha hd]; exact hown2, hD.mark hown1.isMap (k1.ok.same a hd).symm⟩
  have hok := k1.ok.mark ha
  have n1 := k1.d_ne_h
  have n2 := k1.d_ne_m
  have hw : IntKind.i64.wrap ((s.cnt : Int) + 1) = ((s.mark a).cnt : Int) := by rw [St.cnt_mark ha hd, IntKind.wrap_i64]; unfold maxLen at hn; omega
  clear hl c2 c3 hown1 hown2 hg2 hD hhas hat B1
  go_wp2_with (go_at_call 32; refine (add_any d 1 _ 1 _ _ (by rw [b2.cell]; rfl) (b2.frozen 1) hw).mono ?_; rintro e w' ⟨rfl, rfl⟩)
  go_end0
  exact ⟨rfl, ⟨hok, b2.set_ 1 _, r2.far (by show h ≠ d; exact n1.symm) _, m2.block (Below.heap_setCell _ _ _ _ n2.symm)⟩, F2.trans (Fr.of_set _ (.inl rfl) _)⟩
theorem unsync_any (w : World) (k : Dk w d h m s) (a : Nat) (ha : a < s.n) :
    Calls Try.prog 26 #[.pointer (some ⟨d, 0, none⟩), .int .i64 (a : Int)] w fun e w' => e = .returned (.tuple #[]) ∧ Dk w' d h m (s.mark a) ∧ Fr (In3 d h m) w w' := by
  cases hd : s.dirty a with
  | true => exact unsync_dirty w k a ha hd
  | false => exact unsync_clean w k a ha hd
end Go.Proofs.Ytabecmbeenmjaaa.DiskW
