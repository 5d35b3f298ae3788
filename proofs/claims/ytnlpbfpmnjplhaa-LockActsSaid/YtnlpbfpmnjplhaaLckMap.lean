/-
  Maps of the program's table of locks: keyed by transactions and by ids; what they hold, as functions of the key.
-/
import Derived.Test.YtnlpbfpmnjplhaaSlRow
import Derived.Maps.OwnSet
import Derived.Maps.Range
import Derived.Sort.KeysCollected
import Derived.DeepKeys4
namespace Go.Proofs.Ytnlpbfpmnjplhaa.LckW
open Go.RowKit WideW CovW SlW Go.Maps
set_option linter.all false

/-- A family of keys: their values, what they read as, which of them there are. -/
structure Fam (κ : Type) where
  k : TypeId
  kv : κ → Value
  kl : κ → Lit
  ok : κ → Prop
  keyed : Keyed Try.prog k
  key : ∀ {x : κ}, ok x → keyOf Try.prog k (kv x) = some (kl x)
  inv : ∀ {v : Value} {l : Lit}, keyOf Try.prog k v = some l → ∃ x, ok x ∧ v = kv x ∧ l = kl x
  inj : ∀ {x y : κ}, kv x = kv y → x = y
variable {κ : Type} [DecidableEq κ]
omit [DecidableEq κ] in
theorem Fam.lit (K : Fam κ) {x y : κ} (hx : K.ok x) (hy : K.ok y) (h : K.kl x = K.kl y) : x = y :=
  K.inj (K.keyed.inj (K.key hx) (by rw [h]; exact K.key hy))
/-- The reader of a map's values: as they are. -/
def vR (v : Value) : Option (DataW Value × List MemPlace) := some (.held v, [])
theorem vR_inv {v x : Value} {ps : List MemPlace} (h : vR v = some (.held x, ps)) : v = x := by
  simp only [vR, Option.some.injEq, Prod.mk.injEq, DataW.held.injEq] at h
  exact h.1
structure HoldsF (K : Fam κ) (D : DataW Value) (f : κ → Option Value) : Prop where
  has : ∀ x, K.ok x → Maps.has D (K.kl x) = (f x).isSome
  at_ : ∀ x v, K.ok x → f x = some v → ∀ z, D.atKey (K.kl x) z = .held v
  off : ∀ x, ¬ K.ok x → f x = none
def upf (f : κ → Option Value) (x : κ) (v : Option Value) : κ → Option Value := fun y => if y = x then v else f y
theorem upf_same (f : κ → Option Value) (x : κ) (v : Option Value) : upf f x v x = v := by simp [upf]
theorem upf_other {f : κ → Option Value} {x y : κ} {v : Option Value} (h : y ≠ x) : upf f x v y = f y := by simp [upf, h]
/-- A map, nil or in a block, of at most n entries, that holds f. -/
def MapAt (K : Fam κ) (w : World) (mb : Option Nat) (n : Nat) (f : κ → Option Value) : Prop :=
  match mb with
  | none => ∀ x, f x = none
  | some m => ∃ D : DataW Value, w.ownsMap Try.prog K.k vR m n D ∧ HoldsF K D f
section
variable {K : Fam κ} {w w' : World} {mb : Option Nat} {m n n' : Nat} {f : κ → Option Value} {x : κ}
omit [DecidableEq κ] in
theorem MapAt.block (h : MapAt K w mb n f) (e : ∀ m, mb = some m → w'.heap[m]? = w.heap[m]?) : MapAt K w' mb n f := by
  cases mb with
  | none => exact h
  | some m =>
    obtain ⟨D, ⟨es, clock, hb, r⟩, k⟩ := h
    exact ⟨D, ⟨es, clock, (e m rfl).trans hb, r⟩, k⟩
omit [DecidableEq κ] in
theorem MapAt.lt (h : MapAt K w mb n f) (hm : mb = some m) : m < w.heap.size := by
  subst hm; obtain ⟨D, h, -⟩ := h; exact h.lt
omit [DecidableEq κ] in
theorem MapAt.keep (h : MapAt K w mb n f) (b : Below w.heap.size w w') : MapAt K w' mb n f := h.block (fun m e => b.block m (h.lt e))
omit [DecidableEq κ] in
theorem MapAt.ne {b : Nat} {t : TypeId} {cs : Array Value} (h : MapAt K w mb n f) (hm : mb = some m) (k : Blk w b t cs) : m ≠ b := by
  subst hm
  rintro rfl
  obtain ⟨D, ⟨es, clock, hb, -⟩, -⟩ := h
  unfold Blk at k
  rw [hb] at k
  cases k
omit [DecidableEq κ] in
theorem MapAt.mono (h : MapAt K w mb n f) (hn : n ≤ n') : MapAt K w mb n' f := by
  cases mb with
  | none => exact h
  | some m => obtain ⟨D, h, k⟩ := h; exact ⟨D, h.mono hn, k⟩
omit [DecidableEq κ] in
theorem MapAt.off (h : MapAt K w mb n f) (hx : ¬ K.ok x) : f x = none := by
  cases mb with
  | none => exact h x
  | some m => obtain ⟨D, h, k⟩ := h; exact k.off x hx
omit [DecidableEq κ] in
theorem MapAt.new (K : Fam κ) (w : World) : MapAt K (w.alloc (.map #[] 0)) (some w.heap.size) 0 (fun _ => none) :=
  ⟨.map [], World.ownsMap_made w _ _ _, ⟨(fun x _ => by simp [Maps.has]), (fun x v _ h => by cases h), fun _ _ => rfl⟩⟩
omit [DecidableEq κ] in
/-- 'm[k]', with and without 'ok'. -/
theorem MapAt.look {t e : TypeId} {z : Value} (h : MapAt K w mb n f) (ht : Try.prog.underlying t = some (.map K.k e)) (hz : ∀ W, (zeroValue e).run Try.prog W = .ok z W) (hx : K.ok x) :
    (Instr.lookup t (.map mb) (K.kv x) true).run Try.prog w = .ok (.tuple #[(f x).getD z, .bool (f x).isSome]) w ∧ (Instr.lookup t (.map mb) (K.kv x) false).run Try.prog w = .ok ((f x).getD z) w := by
  cases mb with
  | none =>
    have h1 := Maps.look_nil (w := w) true K.keyed ht (hz w) (K.key hx)
    have h2 := Maps.look_nil (w := w) false K.keyed ht (hz w) (K.key hx)
    have h3 : f x = none := h x
    rw [h3]
    exact ⟨h1, h2⟩
  | some m =>
    obtain ⟨D, h, k⟩ := h
    obtain ⟨v, ps, h1, h2⟩ := h.look_ok K.keyed ht (hz w) (zd := .held z) (zp := []) rfl (K.key hx)
    obtain ⟨v', ps', h1', h2'⟩ := h.lookup K.keyed ht (hz w) (zd := .held z) (zp := []) rfl (K.key hx)
    have e : D.atKey (K.kl x) (.held z) = .held ((f x).getD z) := by
      cases hf : f x with
      | some u => exact k.at_ x u hx hf _
      | none => exact atKey_of_not_has (by rw [k.has x hx, hf]; rfl) _
    rw [e] at h2 h2'
    rw [vR_inv h2, k.has x hx] at h1
    rw [vR_inv h2'] at h1'
    exact ⟨h1, h1'⟩
omit [DecidableEq κ] in
/-- 'len(m)'. -/
theorem MapAt.len {t e : TypeId} (h : MapAt K w mb n f) (ht : Try.prog.underlying t = some (.map K.k e)) :
    ∃ c : Nat, (∀ W ty, (∀ m, mb = some m → W.heap[m]? = w.heap[m]?) → (Builtin.len_ #[t] ty #[.map mb]).run Try.prog W = .ok (.int .i64 (c : Int)) W) ∧ c ≤ n ∧ (c = 0 ↔ ∀ x, f x = none) := by
  cases mb with
  | none => exact ⟨0, fun W ty _ => Maps.len_nil ht ty, Nat.zero_le _, fun _ => h, fun _ => rfl⟩
  | some m =>
    obtain ⟨D, h, k⟩ := h
    refine ⟨Maps.size D, fun W ty hW => ?_, h.size_le, ?_⟩
    · obtain ⟨es, clock, hb, r⟩ := h
      exact World.ownsMap.len (k := K.k) (R := vR) (n := n) ⟨es, clock, (hW m rfl).trans hb, r⟩ ht ty
    · obtain ⟨es, rfl, hk⟩ := h.keysOf
      constructor
      · intro h0 x
        have h1 : es = [] := List.eq_nil_of_length_eq_zero h0
        subst h1
        by_cases hx : K.ok x
        · have := k.has x hx
          cases hf : f x with
          | none => rfl
          | some u => rw [hf] at this; simp [Maps.has] at this
        · exact k.off x hx
      · intro h0
        cases es with
        | nil => rfl
        | cons p l =>
          obtain ⟨v, hv⟩ := hk p (by simp)
          obtain ⟨x, hx, -, hl⟩ := K.inv hv
          have h1 := k.has x hx
          rw [h0 x, has_eq] at h1
          have h2 : (p.1.sameKey (K.kl x)) = true := by rw [hl]; exact WideAt.sameKey_self (K.keyed.key (K.key hx))
          simp only [List.any_cons, h2, Bool.true_or] at h1
          cases h1
theorem MapAt.put {D : DataW Value} {v : Value} (h : w.ownsMap Try.prog K.k vR m n D) (k : HoldsF K D f) (hx : K.ok x) (h' : w'.ownsMap Try.prog K.k vR m n' (D.put (K.kl x) (.held v))) : MapAt K w' (some m) n' (upf f x (some v)) := by
  refine ⟨_, h', fun y hy => ?_, fun y u hy hu z => ?_, fun y hy => ?_⟩
  · by_cases e : y = x
    · subst e
      rw [has_put_same h.isMap (K.keyed.key (K.key hx)), upf_same]; rfl
    · rw [has_put_other (fun q => e (K.lit hy hx q)), upf_other e]; exact k.has y hy
  · by_cases e : y = x
    · subst e
      rw [upf_same] at hu
      cases hu
      exact atKey_put_same h.isMap (K.keyed.key (K.key hx)) ..
    · rw [upf_other e] at hu
      rw [atKey_put_other (fun q => e (K.lit hy hx q))]; exact k.at_ y u hy hu z
  · have e : y ≠ x := fun e => hy (e ▸ hx)
    rw [upf_other e]; exact k.off y hy
theorem MapAt.cut {D : DataW Value} (h : w.ownsMap Try.prog K.k vR m n D) (k : HoldsF K D f) (hx : K.ok x) (h' : w'.ownsMap Try.prog K.k vR m n' (D.del (K.kl x))) : MapAt K w' (some m) n' (upf f x none) := by
  refine ⟨_, h', fun y hy => ?_, fun y u hy hu z => ?_, fun y hy => ?_⟩
  · by_cases e : y = x
    · subst e
      rw [has_del_same, upf_same]; rfl
    · rw [has_del_other (fun q => e (K.lit hy hx q)), upf_other e]; exact k.has y hy
  · by_cases e : y = x
    · subst e
      rw [upf_same] at hu
      cases hu
    · rw [upf_other e] at hu
      rw [atKey_del_other (fun q => e (K.lit hy hx q))]; exact k.at_ y u hy hu z
  · have e : y ≠ x := fun e => hy (e ▸ hx)
    rw [upf_other e]; exact k.off y hy
/-- 'm[k] = v' at the operation. -/
theorem MapAt.put_wp {ops : Array Oper} {rest : List Oper} {o : Oper} {a : Act} {Q : Exit → Act → World → Prop} {t e : TypeId} (mo xo vo : Operand) (hg : o.guard = none) (hop : o.op = Op.mapUpdate t mo xo vo) (ht : Try.prog.underlying t = some (.map K.k e))
    (h : MapAt K w (some m) n f) (hn : n < maxLen) (hx : K.ok x) (v : Value) (hm : a.eval mo = .map (some m)) (hxo : a.eval xo = K.kv x) (hvo : a.eval vo = v)
    (hK : ∀ w', MapAt K w' (some m) (n + 1) (upf f x (some v)) → w.grownBy w' (some m) → wpList Try.prog ops Q rest (a.put o.dst undef) w') : wpList Try.prog ops Q (o :: rest) a w := by
  obtain ⟨D, h, k⟩ := h
  refine wpList_mapUpdate_own w hg mo xo vo t hop K.k e K.keyed ht vR m n D hm h hn _ v _ hxo hvo (K.key hx) (.held v) [] rfl ?_
  intro w' h' hg'
  exact hK w' (MapAt.put h k hx h') hg'
/-- 'delete(m, k)' at the operation, the map nil or not. -/
theorem MapAt.cut_wp {ops : Array Oper} {rest : List Oper} {o : Oper} {a : Act} {Q : Exit → Act → World → Prop} {t e : TypeId} (mo xo : Operand) (hg : o.guard = none) (hop : o.op = Op.call { callee := Callee.builtin Builtin.delete, args := #[mo, xo], argTypes := #[t, K.k] }) (ht : Try.prog.underlying t = some (.map K.k e))
    (h : MapAt K w mb n f) (hx : K.ok x) (hm : a.eval mo = .map mb) (hxo : a.eval xo = K.kv x)
    (hK : ∀ w', MapAt K w' mb n (upf f x none) → w.grownBy w' mb → wpList Try.prog ops Q rest (a.put o.dst (.tuple #[])) w') : wpList Try.prog ops Q (o :: rest) a w := by
  cases mb with
  | none =>
    refine wpList_plain hg fun K' hK' => ?_
    have hrun := Maps.drop_nil (w := w) K.keyed ht (K.key hx) o.type
    unfold Oper.wp
    simp [execOp, hop, resolve, invoke, builtin, hm, hxo, hrun, Result.andThen]
    refine hK' _ _ (hK w (fun y => ?_) ⟨rfl, rfl, rfl, Nat.le_refl _, fun _ _ _ => rfl⟩)
    by_cases e : y = x
    · subst e; exact upf_same ..
    · rw [upf_other e]; exact h y
  | some m =>
    obtain ⟨D, h, k⟩ := h
    refine wpList_delete_own w hg mo xo t K.k hop e K.keyed ht vR m n D hm h _ _ hxo (K.key hx) ?_
    intro w' h' hg'
    exact hK w' (MapAt.cut h k hx h') hg'.grown
end

/-- 'len(m)' at the operation. -/
theorem len_wp {ops : Array Oper} {rest : List Oper} {o : Oper} {a : Act} {w : World} {Q : Exit → Act → World → Prop} {t : TypeId} {mb : Option Nat} {c : Int} (mo : Operand) (hg : o.guard = none) (hop : o.op = Op.call { callee := Callee.builtin Builtin.len, args := #[mo], argTypes := #[t] })
    (hl : ∀ ty, (Builtin.len_ #[t] ty #[.map mb]).run Try.prog w = .ok (.int .i64 c) w) (hm : a.eval mo = .map mb) (hK : wpList Try.prog ops Q rest (a.put o.dst (.int .i64 c)) w) : wpList Try.prog ops Q (o :: rest) a w := by
  refine wpList_plain hg fun K' hK' => ?_
  unfold Oper.wp
  simp [execOp, hop, resolve, invoke, builtin, hm, hl o.type, Result.andThen]
  exact hK' _ _ hK
/-- Ids. -/
def famI : Fam Int where
  k := 3
  kv := .int .i64
  kl := .int .i64
  ok x := (Lit.int .i64 x).wf = true
  keyed := int_keyed Try.underlying3
  key h := keyOf_int_mk Try.underlying3 h
  inv h := by
    obtain ⟨x, h1, h2, h3⟩ := Maps.keyOf_int_inv Try.underlying3 h
    exact ⟨x, h3, h1, h2⟩
  inj h := by simpa using h
theorem tx_laidOut : laidOutB Try.prog = true := by kernel_rfl
theorem tx_row : 30 < Try.prog.types.size := of_decide_eq_true (by kernel_rfl)
theorem tx_wide : (match Try.prog.underlying 30 with | some (.array _ _) | some (.struct _) => true | _ => false) = true := by rw [Try.underlying30]
theorem tx_cells : Try.prog.cellsOf 30 = 2 := by kernel_rfl
theorem tx_int : Try.prog.cellsOf 3 = 1 := by kernel_rfl
theorem tx_law : Keyed Try.prog 30 := Keyed.of_law (deep_law_laid tx_laidOut (m := 2) (by omega) tx_row (by kernel_rfl) tx_wide)
theorem tx_key : Try.prog.keyType 30 = true := by kernel_rfl
theorem tx_size : ∃ m, Try.prog.types.size = m + 1 := ⟨Try.prog.types.size - 1, by have := tx_row; omega⟩
theorem tx_struct : ∃ f0 f1, Try.prog.underlying 30 = some (.struct #[f0, f1]) ∧ (f0.type = 3 ∧ f1.type = 3) ∧ f0.offset = 0 ∧ f1.offset = 1 ∧ (f0.name != "_") = true ∧ (f1.name != "_") = true :=
  ⟨_, _, Try.underlying30, ⟨rfl, rfl⟩, rfl, rfl, rfl, rfl⟩
def txOk (p : Int × Int) : Prop := (Lit.int .i64 p.1).wf = true ∧ (Lit.int .i64 p.2).wf = true
def txV (p : Int × Int) : Value := .agg #[.int .i64 p.1, .int .i64 p.2]
def txL (p : Int × Int) : Lit := .string (keyBytes [.int .i64 p.1, .int .i64 p.2])
theorem lits_int {m : Nat} {u : Value} {l : List Lit} (h : Try.prog.keyLits (m + 1) 3 [u] = some l) : ∃ a, u = .int .i64 a ∧ (Lit.int .i64 a).wf = true ∧ l = [.int .i64 a] := by
  unfold Program.keyLits at h
  rw [Try.underlying3] at h
  cases u <;> simp at h
  obtain ⟨⟨rfl, h1⟩, rfl⟩ := h
  exact ⟨_, rfl, h1, rfl⟩
theorem int_lits {m : Nat} {a : Int} (h : (Lit.int .i64 a).wf = true) : Try.prog.keyLits (m + 1) 3 [.int .i64 a] = some [.int .i64 a] := by
  unfold Program.keyLits
  rw [Try.underlying3]
  simp [h]
/-- Transactions. -/
def famT : Fam (Int × Int) where
  k := 30
  kv := txV
  kl := txL
  ok := txOk
  keyed := tx_law
  key {x} h := by
    obtain ⟨f0, f1, hu, ⟨t0, t1⟩, o0, o1, n0, n1⟩ := tx_struct
    obtain ⟨m, hm⟩ := tx_size
    have hf : (txV x).formed Try.prog 30 = true := by simp [Value.formed, hu, tx_cells, txV]
    have hl : Try.prog.keyLits (Try.prog.types.size + 1) 30 (txV x).cells.toList = some [.int .i64 x.1, .int .i64 x.2] := by
      rw [hm]
      unfold Program.keyLits
      simp [hu, txV, Value.cells, tx_cells, n0, n1, t0, t1, o0, o1, tx_int, int_lits h.1, int_lits h.2]
    unfold keyOf
    rw [hu]
    simp only [tx_key, hf, hl]
    rfl
  inv {v l} h := by
    obtain ⟨f0, f1, hu, ⟨t0, t1⟩, o0, o1, n0, n1⟩ := tx_struct
    obtain ⟨m, hm⟩ := tx_size
    obtain ⟨xs, L, rfl, h1, rfl⟩ := keyOf_top tx_wide h
    rw [hm] at h1
    unfold Program.keyLits at h1
    simp only [hu, tx_cells] at h1
    split at h1
    · rename_i hc
      obtain ⟨xs⟩ := xs
      obtain ⟨u0, u1, rfl⟩ : ∃ a b, xs = [a, b] := by
        have := hc.1
        rcases xs with _ | ⟨a, _ | ⟨b, _ | ⟨c, xs⟩⟩⟩
        all_goals first | exact ⟨_, _, rfl⟩ | (simp at this)
      simp [t0, t1, o0, o1, tx_int] at h1
      cases e0 : Try.prog.keyLits (m + 1) 3 [u0] with
      | none => rw [e0] at h1; cases h1
      | some l0 =>
        cases e1 : Try.prog.keyLits (m + 1) 3 [u1] with
        | none => rw [e0, e1] at h1; cases h1
        | some l1 =>
          rw [e0, e1] at h1
          obtain ⟨a, rfl, ha, rfl⟩ := lits_int e0
          obtain ⟨b, rfl, hb, rfl⟩ := lits_int e1
          simp at h1
          subst h1
          exact ⟨(a, b), ⟨ha, hb⟩, rfl, rfl⟩
    · cases h1
  inj {x y} h := by
    obtain ⟨a, b⟩ := x
    obtain ⟨c, d⟩ := y
    simp [txV] at h
    rw [h.1, h.2]
end Go.Proofs.Ytnlpbfpmnjplhaa.LckW
