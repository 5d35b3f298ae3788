/-
  The walk of the program's own withBehind: a row grown at its end.
-/
import Derived.Test.YtbgkkpfhjggbkaaPair
import Derived.Test.YtbgkkpfhjggbkaaCovCell
import Derived.Deep.DeepCutAuto
import Derived.BigQuiet
namespace Go.Proofs.Ytbgkkpfhjggbkaa.CovW
open Go.RowKit WideW Cov
set_option linter.all false

theorem last_of {w : World} {base : Nat} {v : Value} {l : List Rg} {g s : Int} (h : RgRow w base v (l ++ [(g, s)])) : ∃ b c, v = .slice (some ⟨b, 0, none⟩) (l.length + 1) c ∧ base ≤ b ∧ b < w.heap.size ∧
    w.cell? ⟨b, l.length * 2, none⟩ = some (.int .i64 g) ∧ w.cell? ⟨b, l.length * 2 + 1, none⟩ = some (.int .i64 s) ∧ (∀ i, w.frozen? ⟨b, i, none⟩ = false) ∧
    ∀ t : Int, RgRow (w.setCell ⟨b, l.length * 2 + 1, none⟩ (.int .i64 t)) base v (l ++ [(g, t)]) ∧ w.grownBy (w.setCell ⟨b, l.length * 2 + 1, none⟩ (.int .i64 t)) (some b) := by
  have h' := h
  unfold RgRow at h'
  rw [List.length_append, List.length_singleton] at h'
  obtain ⟨b, c, rfl, hb, hl⟩ := h'.form (by omega)
  have e : ∀ x : Int, rgCells (l ++ [(g, x)]) = rgCells l ++ [.int .i64 g, .int .i64 x] := fun x => rgCells_snoc _ _
  have hn := rgCells_len l
  have c0 := h'.cellAt (l.length * 2) (by omega)
  have c1 := h'.cellAt (l.length * 2 + 1) (by omega)
  rw [e, List.getElem?_append_right (by omega), hn] at c0 c1
  refine ⟨b, c, rfl, hb, hl, by rw [c0]; simp, by rw [c1]; simp, fun i => h'.frozenAt i, fun t => ?_⟩
  obtain ⟨k1, k2⟩ := h'.stored (l.length * 2 + 1) (.int .i64 t)
  refine ⟨?_, k2⟩
  unfold RgRow
  rw [List.length_append, List.length_singleton, e]
  rw [e, List.set_append_right _ _ (by omega), hn] at k1
  simpa using k1
theorem row_more {w w1 w' : World} {base : Nat} {v : Value} {l : List Rg} {f t : Int} {g cap : Nat} (h : RgRow w base v l) (h1 : Below w.heap.size w w1) (hown : w'.ownsRow base 63 2 (.slice (some ⟨g, 0, none⟩) (l.length + 1) cap) (l.length + 1) (rgCells l ++ [.int .i64 f, .int .i64 t]))
    (hg : w1.grownBy w' v.ownBlock) (hat : v.ownBlock = some g ∨ g = w1.heap.size) : RgRow w' base (.slice (some ⟨g, 0, none⟩) (l.length + 1) cap) (l ++ [(f, t)]) ∧ Frm w w' v (.slice (some ⟨g, 0, none⟩) (l.length + 1) cap) := by
  refine ⟨?_, ?_⟩
  · unfold RgRow
    rw [rgCells_snoc, List.length_append]
    exact hown
  · refine (Frm.of_below h1 v).trans ⟨hg, fun k hk => ?_⟩
    have : g = k := by simpa [Value.ownBlock] using hk
    subst this
    rcases hat with h | h
    · exact .inl h
    · exact .inr (by omega)

set_option maxHeartbeats 2000000 in
theorem behind_any (base : Nat) (v : Value) (l : List Rg) (f t : Int) (w : World) (hR : RgRow w base v l) (hb : base ≤ w.heap.size) (hl : (l.length + 1) * 16 ≤ 140737488355328) :
    Calls Try.prog 83 #[v, .agg #[.int .i64 f, .int .i64 t]] w fun e w' => ∃ v', e = .returned v' ∧ RgRow w' base v' (push l f t) ∧ Frm w w' v v' := by
  obtain ⟨i0, hi0, hz0, hz1, hz2⟩ := infoP rg_info
  have B1 : Below w.heap.size w (w.alloc (.cells #[.int .i64 f, .int .i64 t] 63)) := Ba B0
  have R1 := hR.kept B1
  have HN := Lib.hid (news2 (w.alloc (.cells #[.int .i64 f, .int .i64 t] 63)) (.int .i64 f) (.int .i64 t) 63)
  have T1 := Two.new w (.int .i64 f) (.int .i64 t) 63
  rcases List.eq_nil_or_concat l with rfl | ⟨l, ⟨g, s⟩, rfl⟩
  · have HR2 := Lib.hid (R1.alloc (Obj.cells #[.int .i64 f, .int .i64 t] 63))
    obtain ⟨A, c, rfl⟩ := hR.slice
    have HR := Lib.hid hR
    clear R1 hR
    go_enter Try.func83, Try.ntmps83
    go_wp2_with fail
    generalize w.alloc (.cells #[.int .i64 f, .int .i64 t] 63) = w1 at *
    have hs := B1.size
    obtain ⟨z, p0, p1⟩ := id T1
    go_quiet (fail)
    go_wp2_with (at_builtin; refine wpList_append_lies _ rfl (.tmp 28) (.tmp 30) _ rfl base 63 i0 _ 2 16 Try.underlying25 hi0 hz0 hz1 hz2 rfl (by decide) _ 0 _ rfl HR2.out ⟨w1.heap.size, 0, none⟩ 1 1 [.int .i64 f, .int .i64 t] rfl rfl HN.out (by intro u hu; simp at hu; rcases hu with rfl | rfl <;> rfl) (by decide) (by unfold maxLen; omega) (by omega) (by simp; omega) _ rfl ?_; intro gg cap w5 hown5 hgrow hat hlt)
    go_wp2_with fail
    have BB : Below w.heap.size w ((w1.drewN nq).alloc (Obj.cells #[.int .i64 f, .int .i64 t] 63)) := Ba ⟨B1.os, B1.tape, B1.output, B1.size, B1.block⟩
    obtain ⟨q1, q2⟩ := row_more HR.out BB hown5 hgrow (hat.imp id fun h => by rw [h])
    exact bodyPost_ret (v := .slice (some ⟨gg, 0, none⟩) 1 cap) (by simp [results, Try.results83, go_sem]) rfl ⟨_, rfl, q1, q2⟩
  · rw [List.concat_eq_append] at *
    obtain ⟨b, c, rfl, hb1, hb2, hc0, hc1, hfz, hst⟩ := last_of R1
    have HR2 := Lib.hid (R1.alloc (Obj.cells #[.int .i64 f, .int .i64 t] 63))
    have HR := Lib.hid hR
    rw [List.length_append, List.length_singleton] at hl
    rw [push_snoc]
    obtain ⟨n, hn⟩ : ∃ n, l.length = n := ⟨_, rfl⟩
    rw [hn] at hl hc0 hc1 hst
    have HR' := HR.out.slice
    rw [List.length_append, List.length_singleton, hn] at HR'
    have HS := Lib.hid hst
    have HR3 := HR2.out
    unfold RgRow at HR3
    rw [List.length_append, List.length_singleton, hn] at HR3
    have HR3 := Lib.hid HR3
    have HNN := Lib.hid hn
    have ev : Value.slice (some ⟨b, 0, none⟩) (l.length + 1) c = .slice (some ⟨b, 0, none⟩) (n + 1) c := by rw [hn]
    rw [ev] at *
    clear R1 hR hst hn HR'
    have ew : IntKind.i64.wrap ((n : Int) + 1 - 1) = n := by rw [IntKind.wrap_i64]; omega
    by_cases hsf : s = f
    · subst hsf
      rw [if_pos rfl]
      go_enter Try.func83, Try.ntmps83
      go_wp2_with fail
      generalize w.alloc (.cells #[.int .i64 s, .int .i64 t] 63) = w1 at *
      obtain ⟨z, p0, p1⟩ := id T1
      go_quiet (fail)
      go_wp2_with fail
      obtain ⟨q1, q2⟩ := HS.out t
      refine bodyPost_ret (v := .slice (some ⟨b, 0, none⟩) (n + 1) c) (by simp [results, Try.results83, go_sem]) rfl ⟨_, rfl, ?_, ?_⟩
      · exact q1
      · refine (Frm.of_below B1 _).trans ⟨?_, fun _ h => .inl h⟩
        exact ⟨q2.os, q2.tape, q2.output, q2.size, q2.block⟩
    · rw [if_neg hsf]
      have dsf : (s == f) = false := by simpa using hsf
      go_enter Try.func83, Try.ntmps83
      go_wp2_with fail
      generalize w.alloc (.cells #[.int .i64 f, .int .i64 t] 63) = w1 at *
      obtain ⟨z, p0, p1⟩ := id T1
      go_quiet (fail)
      go_wp2_with (at_builtin; refine wpList_append_lies _ rfl (.tmp 28) (.tmp 30) _ rfl base 63 i0 _ 2 16 Try.underlying25 hi0 hz0 hz1 hz2 rfl (by decide) _ (n + 1) _ rfl HR3.out ⟨w1.heap.size, 0, none⟩ 1 1 [.int .i64 f, .int .i64 t] rfl rfl HN.out (by intro u hu; simp at hu; rcases hu with rfl | rfl <;> rfl) (by decide) (by unfold maxLen; omega) (by omega) (by simp; omega) _ rfl ?_; intro gg cap w5 hown5 hgrow hat hlt)
      go_wp2_with fail
      have BB : Below w.heap.size w ((w1.drewN nq).alloc (Obj.cells #[.int .i64 f, .int .i64 t] 63)) := Ba ⟨B1.os, B1.tape, B1.output, B1.size, B1.block⟩
      have HH := HR.out
      rw [HNN.out] at HH
      have hla : (l ++ [(g, s)]).length = n + 1 := by rw [List.length_append, List.length_singleton, HNN.out]
      obtain ⟨q1, q2⟩ := row_more HH BB (by rw [hla]; exact hown5) hgrow (hat.imp id fun h => by rw [h])
      rw [hla] at q1 q2
      exact bodyPost_ret (v := .slice (some ⟨gg, 0, none⟩) (n + 1 + 1) cap) (by simp [results, Try.results83, go_sem]) rfl ⟨_, rfl, q1, q2⟩
end Go.Proofs.Ytbgkkpfhjggbkaa.CovW
