import Derived.Test.YtnfbaeajalnmmaaGreatDoorHM
import Derived.Test.YtnfbaeajalnmmaaGreatDoorHJ
namespace Go.Proofs.YtnfbaeajalnmmaaGreatDoor
open Go.RowKit Vi
set_option linter.unusedVariables false
set_option linter.unusedSimpArgs false
def decH (k : Nat) (h : HdR) (s : By) : Except Nat (Rn (Rp (k + 1)) × Nat) := if h.e = 0 then
      match h.many with
      | none => .ok (⟨h.kind, h.text, h.n, []⟩, h.size)
      | some c => match decMany (dec k) c (s.drop h.size) with
        | .error e => .error e
        | .ok (ts, y) => .ok (⟨h.kind, h.text, h.n, ts⟩, h.size + y)
    else .error h.e
theorem dec_succ (k : Nat) (s : By) : dec (k + 1) s = decH k (hd false s) s := rfl
/-- what a call that reads a reply answers. -/
def RyIs (k : Nat) (o : Except Nat (Rn (Rp k) × Nat)) (q : Nat) (s : ByteArray) (p : Nat) (w w' : World) (e : Ending) : Prop := match o with
  | .error x => x ≠ 0 ∧ Dx q w w' ∧ ∃ k0 t0 n0 P0 l0 c0, e = .returned (.tuple #[.agg #[.int .i64 k0, .string t0, .int .i64 n0, .slice P0 l0 c0], .int .i64 (x : Int)])
  | .ok (t, z) => ∃ P l c, e = .returned (.tuple #[.agg #[.int .i64 t.kind, .string (strB t.text), .int .i64 t.n, .slice P l c], .int .i64 0]) ∧ Dx q w w' ∧ RpL (fun g => w.heap.size ≤ g) k w' (.slice P l c) t.list ∧ DkR w' q s (p + z)
theorem ry_lf0 {h : HdR} {q : Nat} {s : ByteArray} {p : Nat} {w w' : World} {e : Ending} (hl : LfIs h q s p w w' e) : RyIs 0 (if h.e = 0 then .ok (⟨h.kind, h.text, h.n, []⟩, h.size) else .error h.e) q s p w w' e := by
  obtain ⟨k0, t0, n0, rfl, hd, hok⟩ := hl
  by_cases he : h.e = 0
  · rw [if_pos he]
    obtain ⟨rfl, rfl, rfl, hk⟩ := hok he
    refine ⟨none, 0, 0, by rw [he]; rfl, hd, RpL.nil _ _ _, hk⟩
  · rw [if_neg he]
    exact ⟨he, hd, k0, t0, n0, none, 0, 0, rfl⟩
theorem ry_lf {k : Nat} {h : HdR} {S : By} {q : Nat} {s : ByteArray} {p : Nat} {w w' : World} {e : Ending} (hl : LfIs h q s p w w' e) (hm : h.many = none) : RyIs (k + 1) (decH k h S) q s p w w' e := by
  obtain ⟨k0, t0, n0, rfl, hd, hok⟩ := hl
  unfold decH
  by_cases he : h.e = 0
  · rw [if_pos he, hm]
    obtain ⟨rfl, rfl, rfl, hk⟩ := hok he
    refine ⟨none, 0, 0, by rw [he]; rfl, hd, RpL.nil _ _ _, hk⟩
  · rw [if_neg he]
    exact ⟨he, hd, k0, t0, n0, none, 0, 0, rfl⟩
theorem nu_neg {r : By} {a n : Int} {z : Nat} (h : nuE r a (-1) = (0, n, z)) : n < 0 := by have := nu_len h; omega
set_option maxHeartbeats 4000000 in
set_option maxRecDepth 20000 in
/-- a list at the deepest place: none but the null. -/
theorem dlist_deep (q : Nat) (s : ByteArray) (p : Nat) (kd a b : Int) (hs : s.size ≤ 281474976710656) (hi : p + 1 ≤ s.size) (w : World) (h : DkR w q s (p + 1)) (hL : Laid w) :
    Calls Tryz.prog 24 #[.pointer (some ⟨q, 0, none⟩), .int .i64 kd, .int .i64 a, .int .i64 b, .int .i64 32] w fun e w' => LfIs (listH kd a b true (s.data.toList.drop (p + 1))) q s p w w' e := by
  obtain ⟨i, hip⟩ : ∃ i, p + 1 = i := ⟨_, rfl⟩
  rw [hip] at hi h ⊢
  have HIP : Hid (p + 1 = i) := hip
  clear hip
  obtain ⟨rb, hrb⟩ : ∃ rb, w.heap.size = rb := ⟨_, rfl⟩
  obtain ⟨W0, hW0⟩ : ∃ W, W = w.alloc (.cells #[.int .i64 0, .string ⟨#[]⟩, .int .i64 0, .slice none 0 0] 24) := ⟨_, rfl⟩
  have hb0 : Below w.heap.size w W0 := by rw [hW0]; exact (Below.refl _ _).alloc (Nat.le_refl _) _
  have hr0 : W0.heap[rb]? = some (.cells #[.int .i64 0, .string ⟨#[]⟩, .int .i64 0, .slice none 0 0] 24) := by rw [hW0, ← hrb]; exact one_alloc _ _
  have HD0 : Hid (Dx q w W0) := Dx.of hb0
  have HR0 : Hid _ := hr0
  have HK0 : Hid (DkR W0 q s i) := h.on hb0
  have hqr : rb ≠ q := by have := h.lt; omega
  have HRW : Hid (w.heap.size ≤ rb) := Nat.le_of_eq hrb
  have HLL : Hid (Laid W0) := hL.on hb0
  obtain ⟨r, hr⟩ : ∃ r, s.data.toList.drop i = r := ⟨_, rfl⟩
  rw [hr]
  obtain ⟨x, hx⟩ : ∃ x, (nuE r a (-1)).1 = x := ⟨_, rfl⟩
  clear h hb0 hr0 hL
  by_cases hx0 : x = 0
  · subst hx0
    obtain ⟨n, z, hnz⟩ : ∃ n z, nuE r a (-1) = (0, n, z) := by
      rcases hh : nuE r a (-1) with ⟨a1, b1, c1⟩
      rw [hh] at hx
      exact ⟨b1, c1, by rw [show a1 = 0 from hx]⟩
    have HNU : Hid _ := dnum_ok q s i a (-1) n z (by omega) hi W0 HK0.out HLL.out (by rw [hr]; exact hnz)
    have hneg := nu_neg hnz
    have hdn : decide (n < 0) = true := dec_t hneg
    have HH : Hid (listH kd a b true r = { e := 0, kind := 9, size := z + 1 }) := by show _ = _; unfold listH; simp only [if_true]; rw [hnz]; simp only; rw [if_pos hneg]
    rw [HH.out]
    clear hx hnz hneg hr
    go_enter Tryz.func24, Tryz.ntmps24
    go_wp2_with fail
    rw [← hW0]
    clear hW0 hrb
    refine (show Calls _ _ _ _ _ from HNU.out).mono ?_
    rintro e w1 ⟨rfl, hd1, hk1⟩
    have HR1 : Hid (w1.heap[rb]? = _) := hd1.row HR0.out hqr
    have HD1 : Hid (Dx q w w1) := HD0.out.trans hd1
    have HK1 : Hid (DkR w1 q s (i + z)) := hk1
    obtain ⟨z0, z1, z2, z3, zf⟩ := prow4 HR1.out
    clear hd1 hk1
    go_wp2
    refine rp2_fin _ 10 11 Tryz.results24 HR1.out _ _ _ _ _ _ (fun w' ho => ?_) _ rfl rfl rfl
    refine ⟨_, _, _, rfl, HD1.out.set ho HRW.out, fun e => ⟨rfl, rfl, rfl, ?_⟩⟩
    exact HK1.out.to ho hqr (by have := HIP.out; show i + z = p + (z + 1); omega)
  · have hxn : ((x : Int) != 0) = true := by simpa using hx0
    have HH : Hid ((listH kd a b true r).e = x) := by
      show _ = _
      rw [listH_e (by simp only [if_true]; rw [hx]; exact hx0)]
      simp only [if_true]; exact hx
    have HNU : Hid _ := dnum_err q s i a (-1) x (by omega) hi W0 HK0.out HLL.out (by rw [hr]; exact hx)
    clear hx hr
    go_enter Tryz.func24, Tryz.ntmps24
    go_wp2_with fail
    rw [← hW0]
    clear hW0 hrb
    refine (show Calls _ _ _ _ _ from HNU.out).mono ?_
    rintro e w1 ⟨⟨n', rfl⟩, hd1⟩
    have HR1 : Hid (w1.heap[rb]? = _) := hd1.row HR0.out hqr
    have HD1 : Hid (Dx q w w1) := HD0.out.trans hd1
    obtain ⟨z0, z1, z2, z3, zf⟩ := prow4 HR1.out
    clear hd1
    go_wp2
    exact rp2_fin _ 10 11 Tryz.results24 HR1.out _ _ _ _ _ _ (fun w' ho => lf_err _ _ _ x HH.out hx0 (HD1.out.set ho HRW.out)) _ rfl rfl rfl
/-- list, between two rounds. -/
structure LsI {k : Nat} (q rb r2 : Nat) (kd : Int) (w W : World) (lv : Value) (E : List (Rn (Rp k) × Value)) : Prop where
  dx : Dx q w W
  res : W.heap[rb]? = some (.cells #[.int .i64 0, .string ⟨#[]⟩, .int .i64 0, .slice none 0 0] 24)
  arr : W.heap[r2]? = some (.cells #[.int .i64 kd, .string ⟨#[]⟩, .int .i64 0, lv] 24)
  row : RowE (r2 + 1) W lv E
  lo : q < rb
  hi : rb < r2
  wr : w.heap.size ≤ rb
theorem LsI.on {k q rb r2 : Nat} {kd : Int} {w W W' : World} {lv : Value} {E : List (Rn (Rp k) × Value)} (h : LsI q rb r2 kd w W lv E) (hd : Dx q W W') : LsI q rb r2 kd w W' lv E :=
  ⟨h.dx.trans hd, hd.row h.res (by have := h.lo; omega), hd.row h.arr (by have := h.lo; have := h.hi; omega), h.row.keep (fun g hg hl => hd.other g hl (by have := h.lo; have := h.hi; omega)), h.lo, h.hi, h.wr⟩
theorem LsI.grow {k q rb r2 : Nat} {kd : Int} {w W w7 : World} {P7 : Option Addr} {l7 c7 : Nat} {lv : Value} {E : List (Rn (Rp k) × Value)} (h : LsI q rb r2 kd w W lv E) (t : Rn (Rp k)) (v : Value) (hv : RpL (fun g => r2 + 1 ≤ g ∧ some g ≠ lv.ownBlock) k W v t.list)
    (ho : w7.ownsRow (r2 + 1) 24 4 (.slice P7 l7 c7) (E.length + 1) (prC E ++ [.int .i64 t.kind, .string (strB t.text), .int .i64 t.n, v])) (hg : W.grownBy w7 lv.ownBlock) (hat : (Value.slice P7 l7 c7).ownBlock = lv.ownBlock ∨ (Value.slice P7 l7 c7).ownBlock = some W.heap.size) :
    w7.heap[r2]? = some (.cells #[.int .i64 kd, .string ⟨#[]⟩, .int .i64 0, lv] 24) ∧ LsI q rb r2 kd w (w7.setCell ⟨r2, 3, none⟩ (.slice P7 l7 c7)) (.slice P7 l7 c7) (E ++ [(t, v)]) ∧ ∀ g, g < r2 → (w7.setCell ⟨r2, 3, none⟩ (.slice P7 l7 c7)).heap[g]? = W.heap[g]? := by
  have hlt := row_lt h.arr
  have hne : ∀ g, g ≤ r2 → some g ≠ lv.ownBlock := fun g hgr e => by have := (h.row.lt g e.symm).1; omega
  have hr3 : w7.heap[r2]? = some (.cells #[.int .i64 kd, .string ⟨#[]⟩, .int .i64 0, lv] 24) := by rw [hg.block r2 hlt (hne r2 (Nat.le_refl _))]; exact h.arr
  have hrow := h.row.snoc t v hv ho hg hat
  have hset : Only w7 (w7.setCell ⟨r2, 3, none⟩ (.slice P7 l7 c7)) r2 := (Only.refl _ _).set _ _
  have hsame : (w7.setCell ⟨r2, 3, none⟩ (.slice P7 l7 c7)).heap[r2]? = some (.cells #[.int .i64 kd, .string ⟨#[]⟩, .int .i64 0, .slice P7 l7 c7] 24) := by rw [heap_setCell_same _ _ _ _ _ _ hr3]; rfl
  have hlow : ∀ g, g < r2 → (w7.setCell ⟨r2, 3, none⟩ (.slice P7 l7 c7)).heap[g]? = W.heap[g]? := fun g hgr => by
    rw [hset.other g (by omega), hg.block g (by omega) (hne g (by omega))]
  have h1 := h.lo; have h2 := h.hi; have h3 := h.wr
  refine ⟨hr3, ⟨⟨?_, ?_, ?_, ?_, ?_⟩, ?_, hsame, ?_, h1, h2, h3⟩, hlow⟩
  · exact hset.os.trans (hg.os.trans h.dx.os)
  · exact hset.tape.trans (hg.tape.trans h.dx.tape)
  · exact hset.output.trans (hg.output.trans h.dx.output)
  · rw [hset.size]; exact Nat.le_trans h.dx.size hg.size
  · intro k hk hq
    rw [hlow k (by omega)]
    exact h.dx.other k hk hq
  · rw [hlow rb h2]; exact h.res
  · exact hrow.keep (fun g hgb _ => hset.other g (by omega))
end Go.Proofs.YtnfbaeajalnmmaaGreatDoor
namespace Go.Proofs.YtnfbaeajalnmmaaGreatDoor
open Go.RowKit Vi
set_option linter.unusedVariables false
set_option linter.unusedSimpArgs false
theorem infoRp : (Tryz.prog.info? 24).map (fun i => (i.zero, i.size, i.bytes)) = some (some (.agg #[.int .i64 0, .string ⟨#[]⟩, .int .i64 0, .slice none 0 0]), 4, 56) := by kernel_rfl
theorem cell_four_new (w : World) (x y z u : Value) (t : TypeId) : ∀ j q, [x, y, z, u][j]? = some q → (w.alloc (.cells #[x, y, z, u] t)).cell? ((⟨w.heap.size, 0, none⟩ : Addr).add j) = some q := by
  intro j q hj
  match j, hj with
  | 0, hj => simp at hj; subst hj; simp [Addr.add]
  | 1, hj => simp at hj; subst hj; simp [Addr.add]
  | 2, hj => simp at hj; subst hj; simp [Addr.add]
  | 3, hj => simp at hj; subst hj; simp [Addr.add]
theorem one4 (k n : Int) (x : ByteArray) (P : Option Addr) (l c : Nat) : ∀ u ∈ ([.int .i64 k, .string x, .int .i64 n, .slice P l c] : List Value), u.oneCell' = true := by
  intro u hu
  rcases List.mem_cons.1 hu with rfl | hu
  · rfl
  rcases List.mem_cons.1 hu with rfl | hu
  · rfl
  rcases List.mem_cons.1 hu with rfl | hu
  · rfl
  rcases List.mem_cons.1 hu with rfl | hu
  · rfl
  cases hu
theorem many_step {α : Type} {f : By → Except Nat (α × Nat)} {i : Nat} {L : By} {ts : List α} {y : Nat} (h : decMany f i L = .ok (ts, y)) {t : α} {z : Nat} (hf : f (L.drop y) = .ok (t, z)) : decMany f (i + 1) L = .ok (ts ++ [t], y + z) := by
  rw [decMany, h]; simp only; rw [hf]
theorem many_bad {α : Type} {f : By → Except Nat (α × Nat)} {i c : Nat} {L : By} {ts : List α} {y : Nat} (h : decMany f i L = .ok (ts, y)) {x : Nat} (hf : f (L.drop y) = .error x) (hc : i < c) : decMany f c L = .error x := by
  refine decMany_err f L x (i + 1) ?_ c hc
  rw [decMany, h]; simp only; rw [hf]
/-- a list out of its replies. -/
def lsO (k : Nat) (o : Except Nat (List (Rn (Rp k)) × Nat)) (kd : Int) (z : Nat) : Except Nat (Rn (Rp (k + 1)) × Nat) := match o with
  | .error e => .error e
  | .ok (ts, y) => .ok (⟨kd, [], 0, ts⟩, z + 1 + y)
set_option maxHeartbeats 8000000 in
set_option maxRecDepth 20000 in
/-- a list that is not too deep. -/
theorem dlist_any (k : Nat) (q : Nat) (s : ByteArray) (p : Nat) (kd a b D : Int) (ha : a = -1 ∨ a = 0) (hb : 0 ≤ b ∧ b ≤ 1048576) (hD0 : 0 ≤ D) (hD : D ≤ 31) (hs : s.size ≤ 281474976710656) (hi : p + 1 ≤ s.size) (w : World) (h : DkR w q s (p + 1)) (hL : Laid w)
    (IH : ∀ W p', Dx q w W → DkR W q s p' → p' ≤ s.size → Calls Tryz.prog 11 #[.pointer (some ⟨q, 0, none⟩), .int .i64 (D + 1)] W fun e w' => RyIs k (dec k (s.data.toList.drop p')) q s p' W w' e) :
    Calls Tryz.prog 24 #[.pointer (some ⟨q, 0, none⟩), .int .i64 kd, .int .i64 a, .int .i64 b, .int .i64 D] w fun e w' => RyIs (k + 1) (decH k (listH kd a b false (s.data.toList.drop (p + 1))) (s.data.toList.drop p)) q s p w w' e := by
  obtain ⟨i, hip⟩ : ∃ i, p + 1 = i := ⟨_, rfl⟩
  rw [hip] at hi h ⊢
  have HIP : Hid (p + 1 = i) := hip
  clear hip
  have hDn : (D == 32) = false := by simp; omega
  have hDw : IntKind.i64.wrap (D + 1) = D + 1 := by rw [IntKind.wrap_i64] <;> omega
  obtain ⟨rb, hrb⟩ : ∃ rb, w.heap.size = rb := ⟨_, rfl⟩
  obtain ⟨W0, hW0⟩ : ∃ W, W = w.alloc (.cells #[.int .i64 0, .string ⟨#[]⟩, .int .i64 0, .slice none 0 0] 24) := ⟨_, rfl⟩
  have hb0 : Below w.heap.size w W0 := by rw [hW0]; exact (Below.refl _ _).alloc (Nat.le_refl _) _
  have hr0 : W0.heap[rb]? = some (.cells #[.int .i64 0, .string ⟨#[]⟩, .int .i64 0, .slice none 0 0] 24) := by rw [hW0, ← hrb]; exact one_alloc _ _
  have HD0 : Hid (Dx q w W0) := Dx.of hb0
  have HR0 : Hid _ := hr0
  have HK0 : Hid (DkR W0 q s i) := h.on hb0
  have hqlt : q < rb := by have := h.lt; omega
  have hqr : rb ≠ q := by omega
  have HRW : Hid (w.heap.size ≤ rb) := Nat.le_of_eq hrb
  have HLL : Hid (Laid W0) := hL.on hb0
  have HIH : Hid _ := IH
  obtain ⟨r, hr⟩ : ∃ r, s.data.toList.drop i = r := ⟨_, rfl⟩
  rw [hr]
  obtain ⟨x, hx⟩ : ∃ x, (nuE r a b).1 = x := ⟨_, rfl⟩
  have hab : a ≤ b := by omega
  clear h hb0 hr0 hL IH
  by_cases hx0 : x = 0
  · subst hx0
    obtain ⟨n, z, hnz⟩ : ∃ n z, nuE r a b = (0, n, z) := by
      rcases hh : nuE r a b with ⟨a1, b1, c1⟩
      rw [hh] at hx
      exact ⟨b1, c1, by rw [show a1 = 0 from hx]⟩
    have HNU : Hid _ := dnum_ok q s i a b n z (by omega) hi W0 HK0.out HLL.out (by rw [hr]; exact hnz)
    have hnr := nu_len hnz
    have hiz : i + z ≤ s.size := by
      have := hnr.1
      rw [← hr, List.length_drop, list_len] at this; omega
    by_cases hneg : n < 0
    · have hdn : decide (n < 0) = true := dec_t hneg
      have HH : Hid (listH kd a b false r = { e := 0, kind := 9, size := z + 1 }) := by show _ = _; unfold listH; simp only [Bool.false_eq_true, if_false]; rw [hnz]; simp only; rw [if_pos hneg]
      rw [HH.out]
      clear hx hnz hneg hr hnr
      go_enter Tryz.func24, Tryz.ntmps24
      go_wp2_with fail
      rw [← hW0]
      clear hW0 hrb
      refine (show Calls _ _ _ _ _ from HNU.out).mono ?_
      rintro e w1 ⟨rfl, hd1, hk1⟩
      have HR1 : Hid (w1.heap[rb]? = _) := hd1.row HR0.out hqr
      have HD1 : Hid (Dx q w w1) := HD0.out.trans hd1
      have HK1 : Hid (DkR w1 q s (i + z)) := hk1
      obtain ⟨z0, z1, z2, z3, zf⟩ := prow4 HR1.out
      clear hd1 hk1
      go_wp2
      refine rp2_fin _ 10 11 Tryz.results24 HR1.out _ _ _ _ _ _ (fun w' ho => ?_) _ rfl rfl rfl
      refine ry_lf ⟨_, _, _, rfl, HD1.out.set ho HRW.out, fun e => ⟨rfl, rfl, rfl, ?_⟩⟩ rfl
      exact HK1.out.to ho hqr (by have := HIP.out; show i + z = p + (z + 1); omega)
    · obtain ⟨m, rfl⟩ : ∃ m : Nat, n = (m : Int) := ⟨n.toNat, by omega⟩
      have hdn : decide ((m : Int) < 0) = false := dec_f hneg
      obtain ⟨c, hc⟩ : ∃ c, c = if kd = 6 then m * 2 else m := ⟨_, rfl⟩
      have HH : Hid (listH kd a b false r = { e := 0, kind := kd, size := z + 1, many := some c }) := by
        show _ = _; unfold listH; simp only [Bool.false_eq_true, if_false]; rw [hnz]; simp only; rw [if_neg hneg, hc, Int.toNat_natCast]
      rw [HH.out]
      have hcb : c ≤ 2097152 := by rw [hc]; split <;> omega
      obtain ⟨L, hLl⟩ : ∃ L, (s.data.toList.drop p).drop (z + 1) = L := ⟨_, rfl⟩
      have HLd : Hid (∀ y, L.drop y = s.data.toList.drop (i + z + y)) := fun y => by
        rw [← hLl, List.drop_drop, List.drop_drop]
        congr 1
        have := HIP.out; omega
      have HFIN : Hid (decH k { e := 0, kind := kd, size := z + 1, many := some c } (s.data.toList.drop p) = lsO k (decMany (dec k) c L) kd z) := by
        show _ = _
        unfold decH lsO
        rw [if_pos rfl]
        simp only
        rw [hLl]
        try rfl
      rw [HFIN.out]
      obtain ⟨b6, hb6⟩ : ∃ b6, (kd == 6) = b6 := ⟨_, rfl⟩
      have hcw : b6 = true → IntKind.i64.wrap ((m : Int) * 2) = (c : Int) := fun e => by
        rw [e] at hb6
        rw [hc, if_pos (by simpa using hb6), IntKind.wrap_i64] <;> omega
      have hcm : b6 = false → m = c := fun e => by
        rw [e] at hb6
        rw [hc, if_neg (by simpa using hb6)]
      clear hx hnz hneg hr hnr hc hLl HFIN HH
      cases b6
      all_goals
        have hcw2 := hcw
        have hcm2 := hcm
        clear hcw hcm
        simp only [forall_const, reduceCtorEq, false_implies] at hcw2 hcm2
        try (have hcm3 := hcm2.symm; subst hcm3)
        go_enter Tryz.func24, Tryz.ntmps24
        go_wp2_with fail
        rw [← hW0]
        clear hW0 hrb
        refine (show Calls _ _ _ _ _ from HNU.out).mono ?_
        rintro e w1 ⟨rfl, hd1, hk1⟩
        have HR1 : Hid (w1.heap[rb]? = some (.cells #[.int .i64 0, .string ⟨#[]⟩, .int .i64 0, .slice none 0 0] 24)) := hd1.row HR0.out hqr
        have HD1 : Hid (Dx q w w1) := HD0.out.trans hd1
        have HK1 : Hid (DkR w1 q s (i + z)) := hk1
        obtain ⟨r2, hr2⟩ : ∃ r2, w1.heap.size = r2 := ⟨_, rfl⟩
        obtain ⟨W2, hW2⟩ : ∃ W2, W2 = w1.alloc (.cells #[.int .i64 kd, .string ⟨#[]⟩, .int .i64 0, .slice none 0 0] 24) := ⟨_, rfl⟩
        have hbb : Below w1.heap.size w1 W2 := by rw [hW2]; exact (Below.refl _ _).alloc (Nat.le_refl _) _
        have HA2 : Hid (W2.heap[r2]? = some (.cells #[.int .i64 kd, .string ⟨#[]⟩, .int .i64 0, .slice none 0 0] 24)) := by rw [hW2, ← hr2]; exact one_alloc _ _
        have HI2 : Hid (LsI (k := k) q rb r2 kd w W2 (.slice none 0 0) []) := by
          refine ⟨HD1.out.trans (Dx.of hbb), keep_row HR1.out hbb, HA2.out, RowE.nil _ _, hqlt, ?_, HRW.out⟩
          have := row_lt HR1.out; omega
        have HK2 : Hid (DkR W2 q s (i + z)) := HK1.out.on hbb
        have HRS : Hid (w1.heap.size = r2) := hr2
        clear hd1 hk1 hr2 hbb HA2
        go_upto_region 11 with fail
        rw [← hW2, HRS.out]
        clear hW2 HRS
        go_wp2
        go_loopw [40] (fun ci wr => ∃ (j y : Nat) (lv : Value) (E : List (Rn (Rp k) × Value)), (j ≤ c ∧ decMany (dec k) j L = .ok (E.map (·.1), y) ∧ i + z + y ≤ s.size ∧ E.length = j ∧ LsI q rb r2 kd w wr lv E ∧ DkR wr q s (i + z + y)) ∧ ci = .int .i64 (j : Int)) (fun ci _ => c - (intOf ci).toNat)
        case atStart => exact ⟨0, 0, _, [], ⟨Nat.zero_le _, rfl, by omega, rfl, HI2.out, HK2.out⟩, rfl⟩
        case round =>
          obtain ⟨j, y, lv, E, ⟨hj, hdm, hys, hEl, hI, hk⟩, rfl⟩ := hrel
          obtain ⟨P0, c0, rfl⟩ : ∃ P0 c0, lv = .slice P0 j c0 := by
            obtain ⟨P0, c0, e0⟩ := own_form hI.row.own
            exact ⟨P0, c0, by rw [e0, hEl]⟩
          have HI : Hid (LsI q rb r2 kd w wr (.slice P0 j c0) E) := hI
          have HDM : Hid (decMany (dec k) j L = .ok (E.map (·.1), y)) := hdm
          have HEL : Hid (E.length = j) := hEl
          have HRS : Hid (r2 < wr.heap.size) := row_lt hI.arr
          by_cases hlt : j < c
          · have HC : Hid (Calls Tryz.prog 11 #[.pointer (some ⟨q, 0, none⟩), .int .i64 (D + 1)] wr fun e w' => RyIs k (dec k (L.drop y)) q s (i + z + y) wr w' e) := by
              have := HIH.out wr (i + z + y) hI.dx hk hys
              rw [← HLd.out y] at this
              exact this
            clear hI hdm hk hEl
            rcases hf : dec k (L.drop y) with x | ⟨t, zz⟩
            · rw [hf] at HC
              have HF : Hid (decMany (dec k) c L = .error x) := many_bad HDM.out hf hlt
              clear hf
              go_wp2_with fail
              refine (show Calls _ _ _ _ _ from HC.out).mono ?_
              rintro e w3 ⟨hx0, hd3, k0, t0, n0, PP, ll, cc, rfl⟩
              have hxn : ((x : Int) != 0) = true := by simpa using hx0
              obtain ⟨W4, hW4⟩ : ∃ W4, W4 = w3.alloc (.cells #[.int .i64 k0, .string t0, .int .i64 n0, .slice PP ll cc] 24) := ⟨_, rfl⟩
              have HI4 : Hid (LsI q rb r2 kd w W4 (.slice P0 j c0) E) := (HI.out.on hd3).on (Dx.of (by rw [hW4]; exact (Below.refl _ _).alloc (Nat.le_refl _) _))
              obtain ⟨z0, z1, z2, z3, zf⟩ := prow4 HI4.out.res
              clear hd3
              go_upto_region 15 with fail
              rw [← hW4]
              clear hW4
              go_wp2
              refine rp2_fin _ 10 11 Tryz.results24 HI4.out.res _ _ _ _ _ _ (fun w' ho => ?_) _ rfl rfl rfl
              rw [HF.out]
              exact ⟨hx0, HI4.out.dx.set ho HRW.out, _, _, _, _, _, _, rfl⟩
            · rw [hf] at HC
              have HF : Hid (decMany (dec k) (j + 1) L = .ok (E.map (·.1) ++ [t], y + zz)) := many_step HDM.out hf
              have hzz : i + z + (y + zz) ≤ s.size := by
                have := (dec_len k _ t zz hf).2
                rw [HLd.out y, List.length_drop, list_len] at this
                omega
              clear hf
              go_wp2_with fail
              refine (show Calls _ _ _ _ _ from HC.out).mono ?_
              rintro e w3 ⟨PP, ll, cc, rfl, hd3, hrp3, hk3⟩
              obtain ⟨W4, hW4⟩ : ∃ W4, W4 = w3.alloc (.cells #[.int .i64 t.kind, .string (strB t.text), .int .i64 t.n, .slice PP ll cc] 24) := ⟨_, rfl⟩
              have hb4 : Below w3.heap.size w3 W4 := by rw [hW4]; exact (Below.refl _ _).alloc (Nat.le_refl _) _
              have HI4 : Hid (LsI q rb r2 kd w W4 (.slice P0 j c0) E) := (HI.out.on hd3).on (Dx.of hb4)
              have hpb : W4.heap[w3.heap.size]? = some (.cells #[.int .i64 t.kind, .string (strB t.text), .int .i64 t.n, .slice PP ll cc] 24) := by rw [hW4]; exact one_alloc _ _
              obtain ⟨pb, hpbe⟩ : ∃ pb, w3.heap.size = pb := ⟨_, rfl⟩
              have HPE : Hid (w3.heap.size = pb) := hpbe
              rw [hpbe] at hpb
              obtain ⟨y0, y1, y2, y3, yf⟩ := prow4 hpb
              obtain ⟨z0, z1, z2, z3, zf⟩ := prow4 HI4.out.arr
              have HRP4 : Hid (RpL (fun g => r2 + 1 ≤ g ∧ some g ≠ (Value.slice P0 j c0).ownBlock) k W4 (.slice PP ll cc) t.list) := by
                refine (hrp3.weak (fun g hg => ?_)).on hb4
                have h1 := HRS.out
                refine ⟨by omega, fun e => ?_⟩
                have := (HI.out.row.lt g e.symm).2
                omega
              have HK4 : Hid (DkR W4 q s (i + z + y + zz)) := hk3.on hb4
              clear hd3 hrp3 hk3 hb4 hpb hpbe
              go_upto_region 16 with fail
              rw [← hW4, HPE.out]
              clear hW4
              obtain ⟨W5, hW5⟩ : ∃ W5, W5 = W4.alloc (.cells #[.int .i64 t.kind, .string (strB t.text), .int .i64 t.n, .slice PP ll cc] 24) := ⟨_, rfl⟩
              have hb5 : Below W4.heap.size W4 W5 := by rw [hW5]; exact (Below.refl _ _).alloc (Nat.le_refl _) _
              have HI5 : Hid (LsI q rb r2 kd w W5 (.slice P0 j c0) E) := HI4.out.on (Dx.of hb5)
              have HRP5 : Hid (RpL (fun g => r2 + 1 ≤ g ∧ some g ≠ (Value.slice P0 j c0).ownBlock) k W5 (.slice PP ll cc) t.list) := HRP4.out.on hb5
              have HK5 : Hid (DkR W5 q s (i + z + y + zz)) := HK4.out.on hb5
              have hown5 : W5.ownsRow (r2 + 1) 24 4 (.slice P0 j c0) j (prC E) := by
                have := HI5.out.row.own
                rw [HEL.out] at this
                exact this
              have HOW5 : Hid ((W4.alloc (.cells #[.int .i64 t.kind, .string (strB t.text), .int .i64 t.n, .slice PP ll cc] 24)).ownsRow (r2 + 1) 24 4 (.slice P0 j c0) j (prC E)) := by rw [← hW5]; exact hown5
              have HW5 : Hid (W5 = W4.alloc (.cells #[.int .i64 t.kind, .string (strB t.text), .int .i64 t.n, .slice PP ll cc] 24)) := hW5
              have HSZ : Hid (r2 + 1 ≤ W4.heap.size) := row_lt HI4.out.arr
              obtain ⟨i0, hi0, hy0, hy1, hy2⟩ := info_parts infoRp
              clear hW5 hb5 hown5
              go_wp2_with (at_builtin; go_must (refine wpList_append_own_at _ rfl _ _ 22 rfl (r2 + 1) 24 i0 (.agg #[.int .i64 0, .string ⟨#[]⟩, .int .i64 0, .slice none 0 0]) 4 56 Tryz.underlying22 hi0 hy0 hy1 hy2 rfl (by decide) (.slice P0 j c0) j (prC E) rfl HOW5.out ⟨W4.heap.size, 0, none⟩ 1 1 [.int .i64 t.kind, .string (strB t.text), .int .i64 t.n, .slice PP ll cc] rfl rfl ?a2 (one4 _ _ _ _ _ _) ?a4 ?a5 ?a6 ?_))
              case a2 => first | exact cell_four_new _ _ _ _ _ _ | (intro jj u hjj; exact cell_four_new _ _ _ _ _ _ jj u hjj)
              case a4 => unfold maxLen; omega
              case a5 => omega
              case a6 => exact Nat.le_trans HSZ.out (by simp)
              intro v7 w7 ho7 hg7 _ hat7
              obtain ⟨P7, c7, hf7⟩ := own_form ho7
              subst hf7
              rw [← HW5.out] at hg7
              have hat8 : (Value.slice P7 (j + 1) c7).ownBlock = (Value.slice P0 j c0).ownBlock ∨ (Value.slice P7 (j + 1) c7).ownBlock = some W5.heap.size := by rw [HW5.out]; simpa using hat7
              have hgr := HI5.out.grow t (.slice PP ll cc) HRP5.out (by rw [HEL.out]; exact ho7) hg7 hat8
              have HI8 : Hid (LsI q rb r2 kd w (w7.setCell ⟨r2, 3, none⟩ (.slice P7 (j + 1) c7)) (.slice P7 (j + 1) c7) (E ++ [(t, .slice PP ll cc)])) := hgr.2.1
              have HK8 : Hid (DkR (w7.setCell ⟨r2, 3, none⟩ (.slice P7 (j + 1) c7)) q s (i + z + (y + zz))) := by
                have h1 := hgr.2.2 q (by have := HI.out.lo; have := HI.out.hi; omega)
                have h2 := HK5.out
                unfold DkR at h2
                show _ = _
                rw [h1, h2, Nat.add_assoc]
              clear z0 z1 z2 z3 zf
              obtain ⟨z0, z1, z2, z3, zf⟩ := prow4 hgr.1
              clear ho7 hg7 hat7 hat8 hgr y0 y1 y2 y3 yf
              go_wp2
              go_roundw
              case rel => exact ⟨j + 1, y + zz, .slice P7 (j + 1) c7, E ++ [(t, .slice PP ll cc)], ⟨hlt, by rw [List.map_append]; exact HF.out, hzz, by rw [List.length_append, HEL.out]; rfl, HI8.out, HK8.out⟩, rfl⟩
              case measure => simp [intOf]; omega
          · have hjc : j = c := by omega
            have HDC : Hid (decMany (dec k) c L = .ok (E.map (·.1), y)) := by rw [← hjc]; exact hdm
            have HK : Hid (DkR wr q s (i + z + y)) := hk
            obtain ⟨z0, z1, z2, z3, zf⟩ := prow4 hI.res
            obtain ⟨y0, y1, y2, y3, yf⟩ := prow4 hI.arr
            clear hI hdm hk hEl hjc
            go_wp2
            refine rp2_fin _ 10 11 Tryz.results24 HI.out.res _ _ _ _ _ _ (fun w' ho => ?_) _ rfl rfl rfl
            rw [HDC.out]
            have htree := HI.out.row.tree
            refine ⟨_, _, _, rfl, HI.out.dx.set ho HRW.out, ?_, HK.out.to ho hqr (by have := HIP.out; show i + z + y = p + (z + 1 + y); omega)⟩
            refine RpB.keep htree (fun g hg hl => ⟨by have := HI.out.hi; have := HI.out.wr; omega, ho.other g (by have := HI.out.hi; omega)⟩) (fun v l hh => ?_)
            exact RpL.keep hh (fun g hg hl => ⟨by have := HI.out.hi; have := HI.out.wr; omega, ho.other g (by have := HI.out.hi; omega)⟩)
  · have hxn : ((x : Int) != 0) = true := by simpa using hx0
    have HH : Hid ((listH kd a b false r).e = x) := by
      show _ = _
      rw [listH_e (by simp only [Bool.false_eq_true, if_false]; rw [hx]; exact hx0)]
      simp only [Bool.false_eq_true, if_false]; exact hx
    have HHM : Hid ((listH kd a b false r).many = none) := by
      show _ = _
      rw [listH_err (by simp only [Bool.false_eq_true, if_false]; rw [hx]; exact hx0)]
    have HNU : Hid _ := dnum_err q s i a b x (by omega) hi W0 HK0.out HLL.out (by rw [hr]; exact hx)
    clear hx hr
    go_enter Tryz.func24, Tryz.ntmps24
    go_wp2_with fail
    rw [← hW0]
    clear hW0 hrb
    refine (show Calls _ _ _ _ _ from HNU.out).mono ?_
    rintro e w1 ⟨⟨n', rfl⟩, hd1⟩
    have HR1 : Hid (w1.heap[rb]? = _) := hd1.row HR0.out hqr
    have HD1 : Hid (Dx q w w1) := HD0.out.trans hd1
    obtain ⟨z0, z1, z2, z3, zf⟩ := prow4 HR1.out
    clear hd1
    go_wp2
    exact rp2_fin _ 10 11 Tryz.results24 HR1.out _ _ _ _ _ _ (fun w' ho => ry_lf (lf_err _ _ _ x HH.out hx0 (HD1.out.set ho HRW.out)) HHM.out) _ rfl rfl rfl
end Go.Proofs.YtnfbaeajalnmmaaGreatDoor
