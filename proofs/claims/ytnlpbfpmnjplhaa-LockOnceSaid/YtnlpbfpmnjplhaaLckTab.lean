/-
  The program's table of locks in memory.
-/
import Derived.Test.YtnlpbfpmnjplhaaLckPure
import Derived.Test.YtnlpbfpmnjplhaaIntApp
namespace Go.Proofs.Ytnlpbfpmnjplhaa.LckW
open Go.RowKit WideW IntW CovW SlW Go.Maps
set_option linter.all false

def capI (n : Nat) : Nat := n * 17592186043904
/-- The struct's block. -/
def TbB (w : World) (tb : Nat) (mt mh : Option Nat) (whole : Bool) (turn : Nat) : Prop := Blk w tb 52 #[.map mt, .map mh, .bool whole, .int .i64 (turn : Int)]
section
variable {w w' : World} {tb turn : Nat} {mt mh : Option Nat} {whole : Bool}
theorem TbB.cells (h : TbB w tb mt mh whole turn) : w.cell? ⟨tb, 0, none⟩ = some (.map mt) ∧ w.cell? ⟨tb, 1, none⟩ = some (.map mh) ∧ w.cell? ⟨tb, 2, none⟩ = some (.bool whole) ∧ w.cell? ⟨tb, 3, none⟩ = some (.int .i64 (turn : Int)) ∧ ∀ i, w.frozen? ⟨tb, i, none⟩ = false := by
  have h : Blk w tb _ _ := h
  exact ⟨by rw [h.cell]; rfl, by rw [h.cell]; rfl, by rw [h.cell]; rfl, by rw [h.cell]; rfl, h.frozen⟩
theorem TbB.keep (h : TbB w tb mt mh whole turn) (b : Below w.heap.size w w') : TbB w' tb mt mh whole turn := Blk.keep h b
theorem TbB.lt (h : TbB w tb mt mh whole turn) : tb < w.heap.size := Blk.lt h
end
/-- The table in block tb: those that are there in the row of their turns; its two maps. -/
def Lt (w : World) (tb : Nat) (T : List En) (turn : Nat) (mt mh : Option Nat) (whole : Bool) : Prop :=
  ∃ f g, TbB w tb mt mh whole turn ∧ MapAt famT w mt turn f ∧ MapAt famI w mh (capI turn) g ∧ Pu T turn whole f g ∧ (∀ x ∈ T, ∃ base, InRow w base x.u x.once) ∧ (mt = none ∨ mt ≠ mh)
/-- The blocks that belong to it, its own aside. -/
def Fs (mt mh : Option Nat) (T : List En) (k : Nat) : Prop := mt = some k ∨ mh = some k ∨ ∃ x ∈ T, x.u.ownBlock = some k
theorem inrow_own {w : World} {base k : Nat} {u : Value} {l : List Int} (h : InRow w base u l) (e : u.ownBlock = some k) : ∃ cs, Blk w k 3 cs := by
  rcases h.2 with ⟨rfl, -⟩ | ⟨g, cap, cur, rfl, -, hg, -⟩
  · cases e
  · cases e; exact ⟨cur, hg⟩
section
variable {w w' : World} {tb turn : Nat} {T : List En} {mt mh : Option Nat} {whole : Bool}
theorem Lt.fs (h : Lt w tb T turn mt mh whole) {k : Nat} (hk : Fs mt mh T k) : k < w.heap.size ∧ k ≠ tb := by
  obtain ⟨f, g, b, a1, a2, p, r, -⟩ := h
  rcases hk with e | e | ⟨x, hx, e⟩
  · exact ⟨a1.lt e, a1.ne e b⟩
  · exact ⟨a2.lt e, a2.ne e b⟩
  · obtain ⟨base, r⟩ := r x hx
    obtain ⟨cs, c⟩ := inrow_own r e
    refine ⟨c.lt, ?_⟩
    rintro rfl
    have b : w.heap[k]? = _ := b
    have c : w.heap[k]? = _ := c
    rw [b] at c
    injection c with c
    injection c with c1 c2
    exact absurd c2 (by decide)
theorem Lt.ft {S : Nat → Prop} (h : Lt w tb T turn mt mh whole) (f : Ft S w w') (hS : ∀ k, Fs mt mh T k ∨ k = tb → ¬ S k) : Lt w' tb T turn mt mh whole := by
  obtain ⟨f', g, b, a1, a2, p, r, ne⟩ := h
  refine ⟨f', g, f.blk b (hS _ (.inr rfl)), a1.block fun m e => f.block m (a1.lt e) (hS _ (.inl (.inl e))), a2.block fun m e => f.block m (a2.lt e) (hS _ (.inl (.inr (.inl e)))), p, fun x hx => ?_, ne⟩
  obtain ⟨base, r⟩ := r x hx
  exact ⟨base, f.own r (fun q hq => hS q (.inl (.inr (.inr ⟨x, hx, hq⟩))))⟩
theorem Lt.keep (h : Lt w tb T turn mt mh whole) (b : Below w.heap.size w w') : Lt w' tb T turn mt mh whole :=
  h.ft (S := fun _ => False) (Ft.of_below b) (fun _ _ => id)
theorem lt_new (w : World) : Lt (w.alloc (.cells #[.map none, .map none, .bool false, .int .i64 0] 52)) w.heap.size [] 0 none none false :=
  ⟨_, _, Blk.new' w 52 #[.map none, .map none, .bool false, .int .i64 0] rfl, fun _ => rfl, fun _ => rfl, pu_nil, (by simp), .inl rfl⟩
end
set_option maxRecDepth 100000 in
theorem newT_any (w : World) : Calls Try.prog 6 #[] w fun e w' => e = .returned (.pointer (some ⟨w.heap.size, 0, none⟩)) ∧ Lt w' w.heap.size [] 0 none none false ∧ Below w.heap.size w w' := by
  go_enter Try.func6, Try.ntmps6
  go_wp2
  go_ret
  exact ⟨rfl, lt_new w, Ba B0⟩
theorem zeroTx (W : World) : (zeroValue 30).run Try.prog W = .ok (.agg #[.int .i64 0, .int .i64 0]) W := Try.zeroValue30 W
theorem zeroHold (W : World) : (zeroValue 54).run Try.prog W = .ok (.agg #[.int .i64 0, .slice none 0 0]) W := Try.zeroValue54 W
/-- What a lookup of an id answers. -/
def txG (g : Int → Option Value) (i : Int) : Value := (g i).getD (.agg #[.int .i64 0, .int .i64 0])
section
variable {w w' : World} {tb turn n : Nat} {mt mh : Option Nat} {whole : Bool} {g : Int → Option Value}
set_option maxRecDepth 100000 in
set_option maxHeartbeats 1000000 in
theorem held_any (b : TbB w tb mt mh whole turn) (h : MapAt famI w mh n g) (hg : ∀ i v, g i = some v → ∃ p, v = txV p) (i : Int) (hi : (Lit.int .i64 i).wf = true) (r : Bool) (hr : r = (g i).isSome) :
    Calls Try.prog 31 #[.pointer (some ⟨tb, 0, none⟩), .int .i64 i] w fun e w' => e = .returned (.bool r) ∧ Below w.heap.size w w' := by
  obtain ⟨c0, c1, c2, c3, fz⟩ := b.cells
  have L := (h.look Try.underlying50 zeroTx hi).1
  obtain ⟨⟨p, q⟩, hp⟩ : ∃ p : Int × Int, (g i).getD (.agg #[.int .i64 0, .int .i64 0]) = txV p := by
    cases e : g i with
    | none => exact ⟨(0, 0), rfl⟩
    | some v => obtain ⟨p, rfl⟩ := hg i v e; exact ⟨p, rfl⟩
  rw [hp, ← hr] at L
  replace L : (Instr.lookup 50 (.map mh) (.int .i64 i) true).run Try.prog w = .ok (.tuple #[.agg #[.int .i64 p, .int .i64 q], .bool r]) w := L
  clear hp hr h hg
  go_enter Try.func31, Try.ntmps31
  go_wp2_with fail
  go_ret
  exact ⟨rfl, Ba B0⟩
end
end Go.Proofs.Ytnlpbfpmnjplhaa.LckW
