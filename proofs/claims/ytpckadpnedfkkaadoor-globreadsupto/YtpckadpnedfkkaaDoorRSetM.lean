import Derived.Test.YtpckadpnedfkkaaDoorGFSet
import Derived.Deep.WholeRow
import Derived.Deep.Cut
namespace Go.Proofs.YtpckadpnedfkkaaDoor
open Go.RowKit Gb
set_option linter.unusedVariables false
/-- 256 cells that say of each byte whether it is in a set. -/
def bt (f : UInt8 → Bool) : Array Value := ((List.range 256).map fun k => Value.bool (f (UInt8.ofNat k))).toArray
theorem info49 : (Tryd.prog.info? 49).map (fun i => (i.zero, i.size)) = some (some (.agg (bt (fun _ => false))), 256) := by kernel_rfl
theorem bt_size (f : UInt8 → Bool) : (bt f).size = 256 := by unfold bt; simp
theorem bt_at (f : UInt8 → Bool) (k : Nat) (h : k < 256) : (bt f)[k]? = some (.bool (f (UInt8.ofNat k))) := by
  unfold bt
  rw [← Array.getElem?_toList]
  simp [h]
theorem bt_at8 (f : UInt8 → Bool) (c : UInt8) : (bt f)[c.toNat]? = some (.bool (f c)) := by rw [bt_at f _ c.toNat_lt]; simp
theorem bt_ext {f : UInt8 → Bool} {cs : Array Value} (hs : cs.size = 256) (h : ∀ k, k < 256 → cs[k]? = some (.bool (f (UInt8.ofNat k)))) : cs = bt f := by
  apply Array.ext_getElem?
  intro k
  by_cases hk : k < 256
  · rw [h k hk, bt_at f k hk]
  · rw [Array.getElem?_eq_none (by omega), Array.getElem?_eq_none (by rw [bt_size]; omega)]
theorem ofNat_eq (j k : Nat) (hj : j < 256) (hk : k < 256) : (UInt8.ofNat j == UInt8.ofNat k) = decide (j = k) := by
  rw [Bool.eq_iff_iff, beq_iff_eq, decide_eq_true_iff]
  constructor
  · intro h
    have := congrArg UInt8.toNat h
    rw [UInt8.toNat_ofNat', UInt8.toNat_ofNat', Nat.mod_eq_of_lt (by omega), Nat.mod_eq_of_lt (by omega)] at this
    exact this
  · intro h; rw [h]
theorem bt_set (f : UInt8 → Bool) (k : Nat) (hk : k < 256) : (bt f).setIfInBounds k (.bool true) = bt (orF f (fun b => b == UInt8.ofNat k)) := by
  apply bt_ext (by simp [bt_size])
  intro j hj
  rw [Array.getElem?_setIfInBounds, bt_size]
  show _ = some (Value.bool (f (UInt8.ofNat j) || (UInt8.ofNat j == UInt8.ofNat k)))
  rw [ofNat_eq j k hj hk]
  by_cases h : k = j
  · subst h; simp [hk]
  · have h' : decide (j = k) = false := by simpa using fun e : j = k => h e.symm
    rw [if_neg h, bt_at f j hj, h', Bool.or_false]
def flipF (f : UInt8 → Bool) (k : Nat) (b : UInt8) : Bool := if b.toNat < k then !f b else f b
theorem bt_flip (f : UInt8 → Bool) (k : Nat) (hk : k < 256) : (bt (flipF f k)).setIfInBounds k (.bool (!f (UInt8.ofNat k))) = bt (flipF f (k + 1)) := by
  apply bt_ext (by simp [bt_size])
  intro j hj
  rw [Array.getElem?_setIfInBounds, bt_size]
  have hjn : (UInt8.ofNat j).toNat = j := by rw [UInt8.toNat_ofNat', Nat.mod_eq_of_lt (by omega)]
  unfold flipF
  rw [hjn]
  by_cases h : k = j
  · subst h; simp [hk]
  · rw [if_neg h, bt_at _ j hj, hjn]
    by_cases h2 : j < k
    · rw [if_pos h2, if_pos (by omega)]
    · rw [if_neg h2, if_neg (by omega)]
theorem flip_at (f : UInt8 → Bool) (k : Nat) (hk : k < 256) : (bt (flipF f k))[k]? = some (.bool (f (UInt8.ofNat k))) := by
  rw [bt_at _ k hk]
  unfold flipF
  rw [UInt8.toNat_ofNat', Nat.mod_eq_of_lt (by omega), if_neg (by omega)]
theorem flip_zero (f : UInt8 → Bool) : flipF f 0 = f := by funext b; unfold flipF; simp
theorem flip_all (f : UInt8 → Bool) : flipF f 256 = notF f := by funext b; unfold flipF notF; have := b.toNat_lt; rw [if_pos (by omega)]
theorem bt_cell {w : World} {g : Nat} {f : UInt8 → Bool} (h : w.heap[g]? = some (.cells (bt f) 49)) (k : Nat) (hk : k < 256) : w.cell? ⟨g, k, none⟩ = some (.bool (f (UInt8.ofNat k))) ∧ w.frozen? ⟨g, k, none⟩ = false :=
  ⟨by rw [cell_of_row _ _ _ _ _ _ h, bt_at f k hk], frozen_of_row _ _ _ _ _ h⟩
theorem bt_put {w : World} {g : Nat} {f : UInt8 → Bool} (h : w.heap[g]? = some (.cells (bt f) 49)) (k : Nat) (hk : k < 256) : (w.setCell ⟨g, k, none⟩ (.bool true)).heap[g]? = some (.cells (bt (orF f (fun b => b == UInt8.ofNat k))) 49) ∧ Only w (w.setCell ⟨g, k, none⟩ (.bool true)) g :=
  ⟨by rw [heap_setCell_same _ _ _ _ _ _ h, bt_set f k hk], ⟨rfl, rfl, rfl, by simp, fun j hj => heap_setCell_other _ _ _ _ hj⟩⟩
theorem of_at (c : UInt8) : UInt8.ofNat c.toNat = c := by simp
/-- the rest of a text, by its bytes. -/
theorem d_len (s : ByteArray) (i : Nat) : (s.data.toList.drop i).length = s.size - i := by rw [List.length_drop, list_len]
theorem d_at (s : ByteArray) (i j : Nat) (h : i + j < s.size) : (s.data.toList.drop i).getD j 0 = s[i + j] := by
  rw [List.getD_eq_getElem?_getD, List.getElem?_drop, at_list s (i + j) h]; rfl
theorem d_at0 (s : ByteArray) (i : Nat) (h : i < s.size) : (s.data.toList.drop i).getD 0 0 = s[i] := d_at s i 0 h
theorem d_stop (s : ByteArray) (i : Nat) (h : s.size ≤ i) : ((s.data.toList.drop i).isEmpty || (s.data.toList.drop i).getD 0 0 == 93) = true := by
  rw [List.drop_eq_nil_of_le (by rw [list_len]; exact h)]; rfl
theorem d_stop2 (s : ByteArray) (i : Nat) (h : i < s.size) (e : s[i].toNat = 93) : ((s.data.toList.drop i).isEmpty || (s.data.toList.drop i).getD 0 0 == 93) = true := by
  rw [d_at0 s i h, show s[i] = 93 from UInt8.toNat_inj.1 e]; simp
theorem d_go (s : ByteArray) (i : Nat) (h : i < s.size) (e : ¬ s[i].toNat = 93) : ((s.data.toList.drop i).isEmpty || (s.data.toList.drop i).getD 0 0 == 93) = false := by
  rw [d_at0 s i h]
  have h2 : (s.data.toList.drop i).isEmpty = false := by
    cases hh : s.data.toList.drop i with
    | nil => have := d_len s i; rw [hh] at this; simp at this; omega
    | cons a t => rfl
  rw [h2, Bool.false_or]
  apply beq_eq_false_iff_ne.2
  intro x; exact e (by rw [x]; rfl)
theorem d_esc (s : ByteArray) (i : Nat) (h : i + 1 < s.size) (e : s[i].toNat = 92) : memN (s.data.toList.drop i) = 2 ∧ memF (s.data.toList.drop i) = fun b => b == s[i + 1] := by
  have h92 : s[i] = 92 := UInt8.toNat_inj.1 e
  have he : esc (s.data.toList.drop i) = true := by unfold esc; rw [d_at0 s i (by omega), d_len, h92]; simp; omega
  have hr : isR (s.data.toList.drop i) = false := by unfold isR; rw [d_at0 s i (by omega), h92]; simp
  constructor
  · unfold memN firstN
    rw [if_neg (by rw [hr]; decide), if_pos he]
  · unfold memF firstB
    rw [if_neg (by rw [hr]; decide), if_pos he, d_at s i 1 h]
theorem d_rng (s : ByteArray) (i : Nat) (h : i + 2 < s.size) (e : ¬ s[i].toNat = 92) (e2 : s[i + 1].toNat = 45) : memN (s.data.toList.drop i) = 3 ∧ memF (s.data.toList.drop i) = rngF s[i] s[i + 2] := by
  have h45 : s[i + 1] = 45 := UInt8.toNat_inj.1 e2
  have hr : isR (s.data.toList.drop i) = true := by
    unfold isR
    rw [d_at0 s i (by omega), d_at s i 1 (by omega), d_len, h45]
    have : ¬ s[i] = 92 := fun x => e (by rw [x]; rfl)
    simp [this]; omega
  unfold memN memF
  rw [if_pos hr, if_pos hr, d_at0 s i (by omega), d_at s i 2 h]
  exact ⟨rfl, rfl⟩
theorem d_one (s : ByteArray) (i : Nat) (h : i < s.size) (e : ¬ (s[i].toNat = 92 ∧ i + 1 < s.size)) (e2 : ∀ h2 : i + 2 < s.size, ¬ s[i + 1].toNat = 45) : memN (s.data.toList.drop i) = 1 ∧ memF (s.data.toList.drop i) = fun b => b == s[i] := by
  have he : esc (s.data.toList.drop i) = false := by
    unfold esc
    rw [d_at0 s i h, d_len]
    apply Bool.eq_false_iff.2
    intro hh
    rw [Bool.and_eq_true, beq_iff_eq, decide_eq_true_iff] at hh
    exact e ⟨by rw [hh.1]; rfl, by omega⟩
  have hr : isR (s.data.toList.drop i) = false := by
    unfold isR
    apply Bool.eq_false_iff.2
    intro hh
    rw [d_len] at hh
    simp at hh
    obtain ⟨⟨h1, _⟩, h3⟩ := hh
    have h2 : i + 2 < s.size := by omega
    refine e2 h2 ?_
    have := d_at s i 1 (by omega)
    rw [List.getD_eq_getElem?_getD] at this
    simp at this h3
    rw [← this, h3]; rfl
  constructor
  · unfold memN firstN
    rw [if_neg (by rw [hr]; decide), if_neg (by rw [he]; decide)]
  · unfold memF firstB
    rw [if_neg (by rw [hr]; decide), if_neg (by rw [he]; decide), d_at0 s i h]
theorem wp_load_at {P : Program} {o : Oper} {a : Act} {w : World} {K : Act → World → Prop} {Q : Exit → Act → World → Prop} (t : TypeId) (p : Operand) (v x : Value) (ho : o.op = Op.load t p) (hp : a.eval p = v) (hrun : (Instr.loadAt t v).run P w = .ok x w) (h : K (a.put o.dst x) w) : Oper.wp P o a w K Q := by
  unfold Oper.wp
  simp [execOp, ho, hp, hrun, Result.andThen]
  exact h
theorem wp_store_at {P : Program} {o : Oper} {a : Act} {w w' : World} {K : Act → World → Prop} {Q : Exit → Act → World → Prop} (t : TypeId) (p q : Operand) (v x : Value) (ho : o.op = Op.store t p q) (hp : a.eval p = v) (hq : a.eval q = x) (hrun : (Instr.storeAt t v x).run P w = .ok () w') (h : K (a.put o.dst undef) w') : Oper.wp P o a w K Q := by
  unfold Oper.wp
  simp [execOp, ho, hp, hq, hrun, Result.andThen]
  rw [Oper.upon_skip]
  exact h
theorem load_bt {w : World} {g : Nat} {f : UInt8 → Bool} (h : w.heap[g]? = some (.cells (bt f) 49)) : (Instr.loadAt 49 (.pointer (some ⟨g, 0, none⟩))).run Tryd.prog w = .ok (.agg (bt f)) w := by
  simp only [Instr.loadAt, Instr.sureAddr, Sem.run_bind, Sem.run_pure, Result.andThen]
  exact run_loadVar_row w g 49 49 (bt f) (0, 0) _ h Tryd.underlying49 rfl (by rw [bt_size]; exact (zero_of_info info49).2)
theorem bt_one (f : UInt8 → Bool) : (bt f).all (·.oneCell') = true := by
  rw [Array.all_eq_true_iff_forall_mem]
  intro v hv
  unfold bt at hv
  simp at hv
  obtain ⟨k, _, rfl⟩ := hv
  rfl
theorem store_bt {w : World} {g : Nat} {f f' : UInt8 → Bool} (h : w.heap[g]? = some (.cells (bt f) 49)) : (Instr.storeAt 49 (.pointer (some ⟨g, 0, none⟩)) (.agg (bt f'))).run Tryd.prog w = .ok () (w.setRow g (bt f')) := by
  simp only [Instr.storeAt, Instr.sureAddr, Sem.run_bind, Sem.run_pure, Result.andThen]
  exact run_storeVar_row w g 49 49 (bt f) (bt f') h (by rw [bt_size]; exact (zero_of_info info49).2) (by rw [bt_size, bt_size]) (bt_one f')
theorem cells_bt {w : World} {g : Nat} {f f' : UInt8 → Bool} (h : w.heap[g]? = some (.cells (bt f) 49)) : (storeCells ⟨g, 0, none⟩ (bt f').toList 0).run Tryd.prog w = .ok () (w.setRow g (bt f')) := by
  have hi : (Tryd.prog.info? 49).map (·.size) = some (bt f').size := by rw [bt_size]; exact (zero_of_info info49).2
  have := run_storeVar_row (P := Tryd.prog) w g 49 49 (bt f) (bt f') h hi (by rw [bt_size, bt_size]) (bt_one f')
  cases hq : Tryd.prog.info? 49 with
  | none => simp [hq] at hi
  | some i =>
    have hs : (bt f').size = i.size := by simp [hq] at hi; omega
    simpa [storeVar, sizeOf, typeInfo, hq, Value.cells, hs] using this
theorem row_bt {w : World} {g : Nat} {f f' : UInt8 → Bool} (h : w.heap[g]? = some (.cells (bt f) 49)) : (w.setRow g (bt f')).heap[g]? = some (.cells (bt f') 49) ∧ Only w (w.setRow g (bt f')) g := by
  refine ⟨by rw [setRow_heap w g _ _ _ _ h], ⟨rfl, rfl, rfl, by simp, fun k hk => setRow_other w g k _ hk⟩⟩
end Go.Proofs.YtpckadpnedfkkaaDoor
