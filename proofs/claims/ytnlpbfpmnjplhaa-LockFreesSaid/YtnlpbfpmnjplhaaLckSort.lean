/-
  The program's table of locks: slices.SortedFunc over the iterator of its keys.
-/
import Derived.Test.YtnlpbfpmnjplhaaLckCmp
import Derived.Test.YtnlpbfpmnjplhaaLckColl
import Derived.Test.YtnlpbfpmnjplhaaLckLaid
namespace Go.Proofs.Ytnlpbfpmnjplhaa.LckW
open Go.RowKit WideW IntW CovW SlW Go.Maps
open Go.Sort (grow grow_grow alloc_eq_grow SWO PermIn SortedIn HoldsK flatK putRowK putRow mapBlock heap_grow_old)
set_option linter.all false

/-- A transaction that may be a key. -/
abbrev TxK := { p : Int × Int // txOk p }
instance : Inhabited TxK := ⟨⟨(0, 0), rfl, rfl⟩⟩
def encT (x : TxK) : List Value := [.int .i64 x.1.1, .int .i64 x.1.2]
def cmpT (f : Int × Int → Option Value) (x y : TxK) : Int := ordL (tn f x.1) (tn f y.1)
theorem lt_cmpT (f : Int × Int → Option Value) (x y : TxK) : ltOf (cmpT f) x y = decide (tn f x.1 < tn f y.1) := by
  unfold ltOf cmpT ordL
  by_cases h : tn f x.1 < tn f y.1
  · simp [h]
  · by_cases h2 : tn f x.1 > tn f y.1 <;> simp [h, h2]
theorem swo_cmpT (f : Int × Int → Option Value) : SWO (ltOf (cmpT f)) where
  irrefl x := by rw [lt_cmpT]; simp
  trans x y z h1 h2 := by rw [lt_cmpT] at *; simp at *; omega
  ntrans x y z h1 h2 := by rw [lt_cmpT] at *; simp at *; omega
theorem grownBy_sortK {w : World} {g n : Nat} {os : Array Obj} (d : Array TxK) : w.grownBy (sortWorldK encT 2 w g 0 n d os) (some g) := by
  unfold sortWorldK putRowK
  refine ⟨rfl, rfl, rfl, by simp, fun k hk hne => ?_⟩
  rw [heap_grow_old _ _ (by simpa using hk)]
  have : g ≠ k := fun e => hne (by rw [e])
  simp [putRow, mapBlock, Go.Sort.ahead, Array.getElem?_modify, this]
/-- The keys as an array of what may be keys. -/
def arrT (ss : List Txp) (h : ∀ x ∈ ss, txOk x) : Array TxK := (ss.attach.map fun x => (⟨x.1, h x.1 x.2⟩ : TxK)).toArray
theorem arrT_list (ss : List Txp) (h : ∀ x ∈ ss, txOk x) : (arrT ss h).toList.map (·.1) = ss := by
  simp [arrT, List.map_map, Function.comp_def, List.attach_map_subtype_val]
theorem arrT_size (ss : List Txp) (h : ∀ x ∈ ss, txOk x) : (arrT ss h).size = ss.length := by simp [arrT]
theorem arrT_at (d : Array TxK) (i : Nat) (hi : i < d.size) : tp (d.toList.map (·.1)) i = (d[i]!).1 := by
  simp [tp, hi]
theorem holds_row {W : World} {base g cap : Nat} {ss : List Txp} (h : ∀ x ∈ ss, txOk x) (r : W.ownsRow base 30 2 (.slice (some ⟨g, 0, none⟩) ss.length cap) ss.length (txc ss)) : HoldsK encT 2 W g 0 (arrT ss h) := by
  intro t ht
  rw [Go.Sort.size_flatK, arrT_size] at ht
  have hi : t / 2 < ss.length := by omega
  rw [Go.Sort.get_flatK _ _ _ _ (by rw [arrT_size]; exact ht)]
  have hd := arrT_at (arrT ss h) (t / 2) (by rw [arrT_size]; exact hi)
  rw [arrT_list] at hd
  obtain ⟨k1, k2⟩ := txc_at ss (t / 2) hi
  have hc := World.ownsRow.cellAt r t ht
  have hfz : W.frozen? ⟨g, 0 + t, none⟩ = false := by
    rcases r.2 with ⟨e, -⟩ | ⟨g', cap', cur, e, -, hg, -⟩
    · cases e
    · cases e; exact Blk.frozen (t := 30) (cs := cur) hg _
  refine ⟨?_, hfz⟩
  rw [Nat.zero_add, hc]
  show _ = some (encT (arrT ss h)[t / 2]!)[t % 2]!
  rcases Nat.mod_two_eq_zero_or_one t with e | e
  · rw [e, show t = t / 2 * 2 by omega, k1, hd]
    simp [encT]
  · have e2 : (txc ss)[t]? = (txc ss)[t / 2 * 2 + 1]? := by congr 1; omega
    rw [e, e2, k2, hd]
    simp [encT]
theorem holds_rd {W : World} {g cap : Nat} {d : Array TxK} (h : HoldsK encT 2 W g 0 d) (hg : g < W.heap.size) (hn : d.size ≤ 9223372036854775807) : RdT W W.heap.size (.slice (some ⟨g, 0, none⟩) d.size cap) (d.toList.map (·.1)) := by
  refine ⟨some ⟨g, 0, none⟩, cap, by simp, by simpa using hn, fun _ => ⟨g, 0, rfl, hg, fun i hi => ?_⟩⟩
  have hi' : i < d.size := by simpa using hi
  have c0 := (Go.Sort.HoldsK.cell h hi' (c := 0) (by omega)).1
  have c1 := (Go.Sort.HoldsK.cell h hi' (c := 1) (by omega)).1
  rw [arrT_at d i hi']
  exact ⟨by simpa [encT] using c0, by simpa [encT] using c1⟩
section
variable {W : World} {tv tb n turn : Nat} {mt mh : Option Nat} {whole : Bool} {f : Int × Int → Option Value}
theorem cmp_lays (hv : Blk W tv 23 #[.pointer (some ⟨tb, 0, none⟩)]) (B : TbB W tb mt mh whole turn) (h : MapAt famT W mt n f) (hf : ∀ p v, f p = some v → ∃ (t : Nat) (A : Option Addr) (l c : Nat), v = .agg #[.int .i64 (t : Int), .slice A l c])
    {g : Nat} {cs : Array Value} (hg : Blk W g 30 cs) (size : Nat) : CmpLays Try.prog 28 #[.pointer (some ⟨tv, 0, none⟩)] encT 2 (cmpT f) g 0 size W := by
  intro m os dk _ x y
  have G := grownBy_sortK (w := W) (g := g) (n := m) (os := os) dk
  have n1 : tv ≠ g := fun e => by subst e; have hv : W.heap[tv]? = _ := hv; have hg : W.heap[tv]? = _ := hg; rw [hv] at hg; injection hg with hg; injection hg with _ e; exact absurd e (by decide)
  have n2 : tb ≠ g := fun e => by subst e; have hv : W.heap[tb]? = _ := B; have hg : W.heap[tb]? = _ := hg; rw [hv] at hg; injection hg with hg; injection hg with _ e; exact absurd e (by decide)
  have hv2 : Blk (sortWorldK encT 2 W g 0 m dk os) tv 23 _ := Blk.grown hv G (by simpa using n1)
  have B2 : TbB (sortWorldK encT 2 W g 0 m dk os) tb mt mh whole turn := Blk.grown B G (by simpa using n2)
  have h2 : MapAt famT (sortWorldK encT 2 W g 0 m dk os) mt n f := h.block (fun q e => G.block q (h.lt e) (by have := h.ne e hg; simpa using this))
  exact cmpT_any (by rw [hv2.cell]; rfl) B2.cells.1 h2 hf x.1 y.1 x.2 y.2
set_option maxRecDepth 100000 in
theorem sortT_any (hv : Blk W tv 23 #[.pointer (some ⟨tb, 0, none⟩)]) (B : TbB W tb mt mh whole turn) (h : MapAt famT W mt n f) (hf : ∀ p v, f p = some v → ∃ (t : Nat) (A : Option Addr) (l c : Nat), v = .agg #[.int .i64 (t : Int), .slice A l c])
    {base : Nat} {v : Value} {ss : List Txp} (hok : ∀ x ∈ ss, txOk x) (row : W.ownsRow base 30 2 v ss.length (txc ss)) (hn : ss.length < 4611686018427387904) :
    Calls Try.prog 33 #[v, .func (.func 28) #[] #[.pointer (some ⟨tv, 0, none⟩)]] W fun e w' => e = .returned (.tuple #[]) ∧
      ∃ ss' : List Txp, ss'.Perm ss ∧ ss'.Pairwise (fun x y => tn f x ≤ tn f y) ∧ RdT w' w'.heap.size v ss' ∧ (∀ b, b ≤ base → Below b W w') := by
  rcases row.2 with ⟨rfl, h0⟩ | ⟨g, cap, cur, rfl, hb, hg, hc, hm, hs, ht⟩
  · obtain rfl := List.eq_nil_of_length_eq_zero h0
    have hcon := AnyF.slices_SortFunc_none sortT_lays none 0 (.func (.func 28) #[] #[.pointer (some ⟨tv, 0, none⟩)]) W
    change Calls Try.prog 33 _ _ _ at hcon
    refine hcon.mono ?_
    rintro e w' ⟨rfl, rfl⟩
    exact ⟨rfl, [], .refl _, .nil, RdT.nil _ _, fun b _ => ⟨rfl, rfl, rfl, Nat.le_refl _, fun _ _ => rfl⟩⟩
  · have hbk : Blk W g 30 cur := hg
    have hH := holds_row hok row
    have eg : ∀ args w, (callFunc 28 args).run Try.prog w = .ok (.enter 28 args) w := enters_of Try.func28 (by kernel_rfl) rfl
    have hcon := AnyQ.slices_SortFunc sortT_lays 2 Try.isAgg30 Try.sizeOf30 encT (fun _ => rfl) (fun x v hv => by simp [encT] at hv; rcases hv with rfl | rfl <;> rfl) (cmpT f) (swo_cmpT f) 28 #[.pointer (some ⟨tv, 0, none⟩)] g 0 cap (arrT ss hok) W eg (cmp_lays hv B h hf hbk _) hH hbk.lt (by rw [arrT_size]; exact hn)
    change Calls Try.prog 33 _ _ _ at hcon
    rw [arrT_size] at hcon
    refine hcon.mono ?_
    rintro e w' ⟨rfl, d', m, os, ⟨p1, -, p3⟩, hsd, rfl⟩
    rw [arrT_size] at p1
    have e1 : (d'.extract 0 ss.length).toList = d'.toList := by rw [← p1]; simp
    have e2 : ((arrT ss hok).extract 0 ss.length).toList = (arrT ss hok).toList := by rw [← arrT_size ss hok]; simp
    rw [e1, e2] at p3
    have hH' := Go.Proofs.holdsK_sortWorldK encT 2 W g 0 m (arrT ss hok) d' os hbk.lt hH (by rw [arrT_size]; exact p1)
    have G := grownBy_sortK (w := W) (g := g) (n := m) (os := os) d'
    refine ⟨rfl, d'.toList.map (·.1), ?_, ?_, ?_, fun b hbb => ⟨G.os, G.tape, G.output, G.size, fun k hk => G.block k (by have := hbk.lt; omega) (fun e => by cases e; omega)⟩⟩
    · have := p3.map (·.1)
      rw [arrT_list] at this
      exact this
    · rw [List.pairwise_map, List.pairwise_iff_getElem]
      intro i j hi hj hij
      have hj' : j < d'.size := by simpa using hj
      have := hsd i j (Nat.zero_le _) hij (by omega)
      rw [lt_cmpT] at this
      have e3 : d'.toList[i] = d'[i]! := by simp [show i < d'.size by omega]
      have e4 : d'.toList[j] = d'[j]! := by simp [hj']
      rw [e3, e4]
      simp at this
      simp [hj', show i < d'.size by omega] at this ⊢
      omega
    · have := holds_rd (cap := cap) hH' (Go.Proofs.lt_sortWorldK _ _ _ _ _ _ _ _ hbk.lt) (by omega)
      rw [p1] at this
      exact this
end
end Go.Proofs.Ytnlpbfpmnjplhaa.LckW
