/-
  The program's table of locks: Holder.
-/
import Derived.Test.YtnlpbfpmnjplhaaLckAll
namespace Go.Proofs.Ytnlpbfpmnjplhaa.LckW
open Go.RowKit WideW IntW CovW SlW Go.Maps
set_option linter.all false

set_option maxRecDepth 100000 in
set_option maxHeartbeats 2000000 in
theorem holder_any {w : World} {tb turn : Nat} {T : List En} {mt mh : Option Nat} {whole : Bool} (h : Lt w tb T turn mt mh whole) (hn : turn ≤ 100000) (i : Int) (hi : (Lit.int .i64 i).wf = true) :
    Calls Try.prog 14 #[.pointer (some ⟨tb, 0, none⟩), .int .i64 i] w fun e w' => ∃ n s r, e = .returned (.tuple #[.agg #[.int .i64 n, .int .i64 s], .bool r]) ∧ HoldOut (hos T) i n s r ∧ Below w.heap.size w w' := by
  obtain ⟨f, g, B, a1, a2, p, hf, hg, rows, ne⟩ := h.form
  cases whole
  case true =>
    obtain ⟨x, rfl, hx⟩ := p.alone rfl
    have HO : Hid (HoldOut (hos [x]) i x.ho.node x.ho.seq true) := Lib.hid (.inl ⟨rfl, 0, by simp [hos], fun j hj => absurd hj (by omega), .inl (by simp [hoAt, hos, hx]), by simp [hoAt, hos], by simp [hoAt, hos]⟩)
    have HB := Lib.hid B
    have PA := fun W (hb : Below w.heap.size w W) => all_any (h.keep hb) hn
    clear h a1 a2 p hf hg rows ne B hx
    go_enter Try.func14, Try.ntmps14
    go_upto_region 1 with fail
    have b1 : Below w.heap.size w (w.alloc (.cells #[.int .i64 0, .int .i64 0] 30)) := Ba B0
    have X := Blk.new' w 30 #[.int .i64 0, .int .i64 0] rfl
    obtain ⟨y, hy⟩ : ∃ y, w.heap.size = y := ⟨_, rfl⟩
    have hy2 := Lib.hid hy
    rw [hy] at X ⊢
    clear hy
    generalize w.alloc (.cells #[.int .i64 0, .int .i64 0] 30) = w1 at *
    obtain ⟨c0, c1, c2, c3, fz⟩ := (HB.out.keep b1).cells
    have PP := PA w1 b1
    go_wp2_with fail
    refine PP.mono ?_
    rintro _ w2 ⟨A, n, c, rfl, hrd, b2⟩
    obtain ⟨A2, c2, e, -, hc⟩ := hrd
    obtain ⟨rfl, rfl, rfl⟩ : A = A2 ∧ n = 1 ∧ c = c2 := by simpa [txs, hos] using e
    obtain ⟨b, off, rfl, -, hk⟩ := hc (by simp [txs, hos])
    obtain ⟨k0, k1⟩ := hk 0 (by simp [txs, hos])
    replace k0 : w2.cell? ⟨b, off, none⟩ = some (.int .i64 x.ho.node) := by simpa [tp, txs, hos] using k0
    replace k1 : w2.cell? ⟨b, off + 1, none⟩ = some (.int .i64 x.ho.seq) := by simpa [tp, txs, hos] using k1
    replace X := X.keep b2
    have y0 : w2.cell? ⟨y, 0, none⟩ = some (.int .i64 0) := by rw [X.cell]; rfl
    have y1 : w2.cell? ⟨y, 1, none⟩ = some (.int .i64 0) := by rw [X.cell]; rfl
    have f0 := X.frozen 0
    have f1 := X.frozen 1
    clear PP hc hk e c0 c1 c2 c3 fz PA HB
    go_wp2_with fail
    have X' := (X.set_ 0 (.int .i64 x.ho.node)).set_ 1 (.int .i64 x.ho.seq)
    have EA : ((w2.setCell ⟨y, 0, none⟩ (.int .i64 x.ho.node)).setCell ⟨y, 1, none⟩ (.int .i64 x.ho.seq)).cell? ⟨y, 0, none⟩ = some (.int .i64 x.ho.node) := by rw [X'.cell]; rfl
    have EB : ((w2.setCell ⟨y, 0, none⟩ (.int .i64 x.ho.node)).setCell ⟨y, 1, none⟩ (.int .i64 x.ho.seq)).cell? ⟨y, 1, none⟩ = some (.int .i64 x.ho.seq) := by rw [X'.cell]; rfl
    have BB : Below w.heap.size w ((w2.setCell ⟨y, 0, none⟩ (.int .i64 x.ho.node)).setCell ⟨y, 1, none⟩ (.int .i64 x.ho.seq)) := Bs (Bs (Bt b1 b2) (p := ⟨y, 0, none⟩) (by have := hy2.out; dsimp only; omega)) (p := ⟨y, 1, none⟩) (by have := hy2.out; dsimp only; omega)
    exact bodyPost_ret (v := .tuple #[.agg #[.int .i64 x.ho.node, .int .i64 x.ho.seq], .bool true]) (by simp [EA, EB, results, Try.results14, go_sem]) rfl ⟨_, _, true, rfl, HO.out, BB⟩
  case false =>
    obtain ⟨n, s, r, hv, hr, ho⟩ : ∃ n s r, (g i).getD (.agg #[.int .i64 0, .int .i64 0]) = .agg #[.int .i64 n, .int .i64 s] ∧ (g i).isSome = r ∧ HoldOut (hos T) i n s r := by
      rcases p.holder rfl i with ⟨x, hx, e, ho⟩ | ⟨e, ho⟩
      · exact ⟨_, _, true, by rw [e]; rfl, by rw [e]; rfl, ho⟩
      · exact ⟨0, 0, false, by rw [e]; rfl, by rw [e]; rfl, ho⟩
    have L := fun W (hb : Below w.heap.size w W) => ((a2.keep hb).look Try.underlying50 zeroTx hi).1
    rw [hv, hr] at L
    have HO := Lib.hid ho
    have HL := Lib.hid L
    have HB := Lib.hid B
    clear h a1 a2 p hf hg rows ne B hv hr L ho
    go_enter Try.func14, Try.ntmps14
    go_upto_region 1 with fail
    have b1 : Below w.heap.size w (w.alloc (.cells #[.int .i64 0, .int .i64 0] 30)) := Ba B0
    have X := Blk.new' w 30 #[.int .i64 0, .int .i64 0] rfl
    obtain ⟨y, hy⟩ : ∃ y, w.heap.size = y := ⟨_, rfl⟩
    have hy2 := Lib.hid hy
    rw [hy] at X ⊢
    clear hy
    generalize w.alloc (.cells #[.int .i64 0, .int .i64 0] 30) = w1 at *
    obtain ⟨c0, c1, c2, c3, fz⟩ := (HB.out.keep b1).cells
    have L1 : (Instr.lookup 50 (.map mh) (.int .i64 i) true).run Try.prog w1 = .ok (.tuple #[.agg #[.int .i64 n, .int .i64 s], .bool r]) w1 := HL.out w1 b1
    go_upto_region 6 with fail
    have b2 : Below w1.heap.size w1 (w1.alloc (.cells #[.int .i64 n, .int .i64 s] 30)) := Ba B0
    have Z := Blk.new' w1 30 #[.int .i64 n, .int .i64 s] rfl
    obtain ⟨z, hz⟩ : ∃ z, w1.heap.size = z := ⟨_, rfl⟩
    rw [hz] at Z ⊢
    replace X := X.keep b2
    replace b2 := Bt b1 b2
    clear hz c0 c1 c2 c3 fz L1 b1
    generalize w1.alloc (.cells #[.int .i64 n, .int .i64 s] 30) = w2 at *
    have z0 : w2.cell? ⟨z, 0, none⟩ = some (.int .i64 n) := by rw [Z.cell]; rfl
    have z1 : w2.cell? ⟨z, 1, none⟩ = some (.int .i64 s) := by rw [Z.cell]; rfl
    have y0 : w2.cell? ⟨y, 0, none⟩ = some (.int .i64 0) := by rw [X.cell]; rfl
    have y1 : w2.cell? ⟨y, 1, none⟩ = some (.int .i64 0) := by rw [X.cell]; rfl
    have f0 := X.frozen 0
    have f1 := X.frozen 1
    go_wp2_with fail
    have X' := (X.set_ 0 (.int .i64 n)).set_ 1 (.int .i64 s)
    have EA : ((w2.setCell ⟨y, 0, none⟩ (.int .i64 n)).setCell ⟨y, 1, none⟩ (.int .i64 s)).cell? ⟨y, 0, none⟩ = some (.int .i64 n) := by rw [X'.cell]; rfl
    have EB : ((w2.setCell ⟨y, 0, none⟩ (.int .i64 n)).setCell ⟨y, 1, none⟩ (.int .i64 s)).cell? ⟨y, 1, none⟩ = some (.int .i64 s) := by rw [X'.cell]; rfl
    have BB : Below w.heap.size w ((w2.setCell ⟨y, 0, none⟩ (.int .i64 n)).setCell ⟨y, 1, none⟩ (.int .i64 s)) := Bs (Bs b2 (p := ⟨y, 0, none⟩) (by have := hy2.out; dsimp only; omega)) (p := ⟨y, 1, none⟩) (by have := hy2.out; dsimp only; omega)
    exact bodyPost_ret (v := .tuple #[.agg #[.int .i64 n, .int .i64 s], .bool r]) (by simp [EA, EB, results, Try.results14, go_sem]) rfl ⟨_, _, r, rfl, HO.out, BB⟩
end Go.Proofs.Ytnlpbfpmnjplhaa.LckW
