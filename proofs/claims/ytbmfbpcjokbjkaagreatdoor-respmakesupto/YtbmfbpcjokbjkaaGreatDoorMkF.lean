import Derived.Test.YtbmfbpcjokbjkaaGreatDoorMkE
namespace Go.Proofs.YtbmfbpcjokbjkaaGreatDoor
open Go.RowKit Vi
set_option linter.unusedVariables false
set_option linter.unusedSimpArgs false
theorem step_append_rp {w : World} {ops : Array Oper} {o : Oper} {a : Act} {K : Act → World → Prop} {Q : Exit → Act → World → Prop} {E : Prop} (hg : o.guard = none) (s x : Operand)
    (hop : o.op = Op.call { callee := Callee.builtin Builtin.append, args := #[s, x], argTypes := #[22, 22] })
    (b : Nat) (hb : b ≤ w.heap.size) (v : Value) (n : Nat) (xs : List Value) (hs : a.eval s = v) (hown : w.ownsRow b 24 4 v n xs) (nb : Nat) (u : ByteArray) (hx : a.eval x = .slice (some ⟨nb, 0, none⟩) 1 1) (hu : ∀ j q, ([.int .i64 4, .string u, .int .i64 0, .slice none 0 0] : List Value)[j]? = some q → w.cell? ((⟨nb, 0, none⟩ : Addr).add j) = some q) (hl : n ≤ 1099511627776)
    (h : ∀ v' w', w'.ownsRow b 24 4 v' (n + 1) (xs ++ [.int .i64 4, .string u, .int .i64 0, .slice none 0 0]) → w.grownBy w' v.ownBlock → K (a.put o.dst v') w') :
    if Region.wanted o (yielded ops a.tmps) = true then Oper.wp Tryz.prog o a w K Q else E := by
  have hw : Region.wanted o (yielded ops a.tmps) = true := by simp [Region.wanted, hg]
  rw [if_pos hw]
  obtain ⟨i9, hi9, hy9, hy10, hy11⟩ := info_parts infoRp
  obtain ⟨v', w', hrun, h2, h3, h4, h5⟩ := run_append_own_at (P := Tryz.prog) w b 22 o.type 24 i9 (.agg #[.int .i64 0, .string ⟨#[]⟩, .int .i64 0, .slice none 0 0]) 4 56 Tryz.underlying22 hi9 hy9 hy10 hy11 rfl (by decide) v n xs hown ⟨nb, 0, none⟩ 1 1 [.int .i64 4, .string u, .int .i64 0, .slice none 0 0] rfl
    hu (one4 u) (by unfold maxLen; omega) (by omega) hb
  unfold Oper.wp
  simp [execOp, hop, resolve, invoke, builtin, hs, hx, hrun, Result.andThen]
  exact h v' w' h2 h3
/-- a list's reply. -/
def rpL (P : Option Addr) (n c : Nat) : Value := .agg #[.int .i64 5, .string ⟨#[]⟩, .int .i64 0, .slice P n c]
theorem Array_nil (w : World) : Calls Tryz.prog 22 #[.slice none 0 0] w fun e w' => e = .returned (.agg #[.int .i64 5, .string ⟨#[]⟩, .int .i64 0, .slice none 0 0]) ∧ Below w.heap.size w w' := by
  obtain ⟨W0, hW0⟩ : ∃ W, W = w.alloc (.cells #[.int .i64 0, .string ⟨#[]⟩, .int .i64 0, .slice none 0 0] 24) := ⟨_, rfl⟩
  obtain ⟨b, hb⟩ : ∃ b, w.heap.size = b := ⟨_, rfl⟩
  have hb0 : Below b w W0 := by rw [hW0, ← hb]; exact (Below.refl _ _).alloc (Nat.le_refl _) _
  have hr0 : W0.heap[b]? = some (.cells #[.int .i64 0, .string ⟨#[]⟩, .int .i64 0, .slice none 0 0] 24) := by rw [hW0, ← hb]; exact one_alloc _ _
  have HB0 : Hid (Below b w W0) := hb0
  have HR0 : Hid _ := hr0
  rw [hb]
  clear hb0 hr0
  go_enter Tryz.func22, Tryz.ntmps22
  go_wp2_with fail
  rw [← hW0]
  clear hW0 hb
  refine (copied_nil _).mono ?_
  rintro e w1 ⟨rfl, hw1⟩
  subst hw1
  obtain ⟨z0, z1, z2, z3, zf⟩ := prow4 HR0.out
  go_wp2
  exact rp_fin _ 2 Tryz.results22 HR0.out _ _ _ _ _ (fun w' ho => ⟨rfl, HB0.out.trans (ho.below (Nat.le_refl _))⟩) _ rfl rfl
theorem Array_any (v : Value) (xs : List ByteArray) (hx : xs.length ≤ 1073741824) (hsz : ∀ x ∈ xs, x.size ≤ 1099511627776) (w : World) (hV : BV w v xs) :
    Calls Tryz.prog 22 #[v] w fun e w' => (∃ P c, e = .returned (rpL P xs.length c) ∧ BV w' (.slice P xs.length c) xs) ∧ Below w.heap.size w w' := by
  obtain ⟨P0, c0, rfl⟩ := hV.form
  obtain ⟨W0, hW0⟩ : ∃ W, W = w.alloc (.cells #[.int .i64 0, .string ⟨#[]⟩, .int .i64 0, .slice none 0 0] 24) := ⟨_, rfl⟩
  obtain ⟨b, hb⟩ : ∃ b, w.heap.size = b := ⟨_, rfl⟩
  have hb0 : Below b w W0 := by rw [hW0, ← hb]; exact (Below.refl _ _).alloc (Nat.le_refl _) _
  have hr0 : W0.heap[b]? = some (.cells #[.int .i64 0, .string ⟨#[]⟩, .int .i64 0, .slice none 0 0] 24) := by rw [hW0, ← hb]; exact one_alloc _ _
  have HB0 : Hid (Below b w W0) := hb0
  have HR0 : Hid _ := hr0
  have HW : Hid (b < W0.heap.size) := row_lt hr0
  have HCP : Hid _ := copied_any _ xs hx hsz W0 (hV.on (hb ▸ hb0))
  obtain ⟨n, hn⟩ : ∃ n, xs.length = n := ⟨_, rfl⟩
  have HN : Hid (xs.length = n) := hn
  rw [hn] at HCP ⊢
  rw [hb]
  clear hb0 hr0 hV hsz hn hx
  go_enter Tryz.func22, Tryz.ntmps22
  go_wp2_with fail
  rw [← hW0]
  clear hW0 hb
  refine (show Calls _ _ _ _ _ from HCP.out).mono ?_
  rintro e w1 ⟨⟨P, c, rfl, hown⟩, hb1⟩
  have HB1 : Hid (Below b w w1) := HB0.out.trans (hb1.mono (Nat.le_of_lt HW.out))
  have HR1 : Hid _ := keep_row HR0.out hb1
  have HOW : Hid (w1.ownsRow W0.heap.size 24 4 (.slice P n c) n (rpC xs)) := hown
  obtain ⟨z0, z1, z2, z3, zf⟩ := prow4 HR1.out
  clear hb1 hown
  go_wp2
  exact rp_fin _ 2 Tryz.results22 HR1.out _ _ _ _ _ (fun w' ho => ⟨⟨P, c, rfl, own_bv (own_stays' HOW.out (fun g hg => ho.other g (fun e => by have := own_block HOW.out g hg; have := HW.out; omega))) HN.out⟩, HB1.out.trans (ho.below (Nat.le_refl _))⟩) _ rfl rfl
/-- Texts, between two rounds. -/
structure TxI (B q3 : Nat) (w W : World) (xs : List ByteArray) (P : Option Addr) (i c : Nat) : Prop where
  bel : Below B w W
  res : W.heap[B]? = some (.cells #[.int .i64 0, .string ⟨#[]⟩, .int .i64 0, .slice none 0 0] 24)
  arr : W.heap[q3]? = some (.cells #[.int .i64 5, .string ⟨#[]⟩, .int .i64 0, .slice P i c] 24)
  own : W.ownsRow (q3 + 1) 24 4 (.slice P i c) i (rpC (xs.take i))
  lo : B < q3
theorem TxI.on {B q3 : Nat} {w W W' : World} {xs : List ByteArray} {P : Option Addr} {i c : Nat} (h : TxI B q3 w W xs P i c) (hb : Below W.heap.size W W') : TxI B q3 w W' xs P i c :=
  ⟨h.bel.trans (hb.mono (Nat.le_of_lt (row_lt h.res))), keep_row h.res hb, keep_row h.arr hb, own_on h.own hb, h.lo⟩
theorem TxI.grow {B q3 : Nat} {w W w7 : World} {xs : List ByteArray} {P P7 : Option Addr} {i c c7 : Nat} (h : TxI B q3 w W xs P i c) (hi : i < xs.length) (ho : Obj)
    (h7 : w7.ownsRow (q3 + 1) 24 4 (.slice P7 (i + 1) c7) (i + 1) (rpC (xs.take i) ++ [.int .i64 4, .string (xs[i]'hi), .int .i64 0, .slice none 0 0])) (hg : (W.alloc ho).grownBy w7 (Value.slice P i c).ownBlock) :
    w7.heap[q3]? = some (.cells #[.int .i64 5, .string ⟨#[]⟩, .int .i64 0, .slice P i c] 24) ∧ TxI B q3 w (w7.setCell ⟨q3, 3, none⟩ (.slice P7 (i + 1) c7)) xs P7 (i + 1) c7 := by
  have hba : Below W.heap.size W (W.alloc ho) := (Below.refl _ _).alloc (Nat.le_refl _) _
  have keep : ∀ g, g ≤ q3 → g < W.heap.size → w7.heap[g]? = W.heap[g]? := fun g hgq hgl => (hg.block g (Nat.lt_of_lt_of_le hgl hba.size) (fun e => by have := own_block h.own g e.symm; omega)).trans (hba.block g hgl)
  have hB : B ≤ W.heap.size := Nat.le_of_lt (row_lt h.res)
  have hr3 := (keep q3 (Nat.le_refl _) (row_lt h.arr)).trans h.arr
  refine ⟨hr3, ⟨?_, ?_, ?_, ?_, h.lo⟩⟩
  · exact ((h.bel.alloc hB ho).grown hg (Nat.le_trans hB hba.size) (fun k hk => by have := own_block h.own k hk; have := h.lo; omega)).setCell (p := ⟨q3, 3, none⟩) (Nat.le_of_lt h.lo) _
  · rw [heap_setCell_other _ _ _ _ (fun e => by have h9 : B = q3 := e; have := h.lo; omega), keep B (Nat.le_of_lt h.lo) (row_lt h.res)]; exact h.res
  · rw [heap_setCell_same _ _ _ _ _ _ hr3]; rfl
  · rw [rpC_snoc xs i hi]
    exact own_stays' h7 (fun g hg2 => heap_setCell_other _ _ _ _ (fun e => by have h9 : g = q3 := e; have := own_block h7 g hg2; omega))
set_option maxRecDepth 20000 in
set_option maxHeartbeats 4000000 in
theorem Texts_any (v : Value) (xs : List ByteArray) (hx : xs.length ≤ 1073741824) (hsz : ∀ x ∈ xs, x.size ≤ 1099511627776) (w : World) (hS : SRow w v xs) :
    Calls Tryz.prog 21 #[v] w fun e w' => (∃ P c, e = .returned (rpL P xs.length c) ∧ BV w' (.slice P xs.length c) xs) ∧ Below w.heap.size w w' := by
  obtain ⟨P0, c0, rfl⟩ := hS.form
  have HS : Hid (SRow w (.slice P0 xs.length c0) xs) := hS
  have HSZ : Hid _ := hsz
  obtain ⟨n, hn⟩ : ∃ n, xs.length = n := ⟨_, rfl⟩
  have HN : Hid (xs.length = n) := hn
  rw [hn] at hx HS ⊢
  obtain ⟨W0, hW0⟩ : ∃ W, W = w.alloc (.cells #[.int .i64 0, .string ⟨#[]⟩, .int .i64 0, .slice none 0 0] 24) := ⟨_, rfl⟩
  obtain ⟨B, hB⟩ : ∃ b, w.heap.size = b := ⟨_, rfl⟩
  have HB : Hid (w.heap.size = B) := hB
  have hb0 : Below B w W0 := by rw [hW0, ← hB]; exact (Below.refl _ _).alloc (Nat.le_refl _) _
  have hr0 : W0.heap[B]? = some (.cells #[.int .i64 0, .string ⟨#[]⟩, .int .i64 0, .slice none 0 0] 24) := by rw [hW0, ← hB]; exact one_alloc _ _
  have HB0 : Hid (Below B w W0) := hb0
  have HR0 : Hid _ := hr0
  have HAN : Hid _ := Array_nil W0
  rw [hB]
  clear hb0 hr0 hS hsz hn
  go_enter Tryz.func21, Tryz.ntmps21
  go_wp2_with fail
  rw [← hW0]
  clear hW0 hB
  refine (show Calls _ _ _ _ _ from HAN.out).mono ?_
  rintro e w1 ⟨rfl, hb1⟩
  obtain ⟨W1, hW1⟩ : ∃ W, W = w1.alloc (.cells #[.int .i64 5, .string ⟨#[]⟩, .int .i64 0, .slice none 0 0] 24) := ⟨_, rfl⟩
  obtain ⟨q3, hq3⟩ : ∃ q, w1.heap.size = q := ⟨_, rfl⟩
  have HTX : Hid (TxI B q3 w W1 xs none 0 0) := by
    have h1 : Below W0.heap.size W0 W1 := by rw [hW1]; exact hb1.alloc hb1.size _
    refine ⟨HB0.out.trans (h1.mono (Nat.le_of_lt (row_lt HR0.out))), keep_row HR0.out h1, ?_, ⟨rfl, Or.inl ⟨rfl, rfl⟩⟩, ?_⟩
    · rw [hW1, ← hq3]; exact one_alloc _ _
    · rw [← hq3]; exact Nat.lt_of_lt_of_le (row_lt HR0.out) hb1.size
  clear hb1
  go_upto_region 2 with fail
  rw [← hW1]
  clear hW1
  clear hq3
  go_wp2
  go_loopw [9] (fun ci wr => ∃ (i : Nat) (P : Option Addr) (c : Nat), (i ≤ n ∧ TxI B q3 w wr xs P i c) ∧ ci = .int .i64 (i : Int)) (fun ci _ => n - (intOf ci).toNat)
  case atStart => exact ⟨0, none, 0, ⟨Nat.zero_le _, HTX.out⟩, rfl⟩
  case round =>
    obtain ⟨i, P, c, ⟨hi, hI⟩, rfl⟩ := hrel
    have HI : Hid (TxI B q3 w wr xs P i c) := hI
    clear hI
    by_cases hlt : i < n
    · have hix : i < xs.length := by rw [HN.out]; exact hlt
      obtain ⟨g, o, hP0, hcx⟩ := (HS.out.on (HB.out ▸ HI.out.bel)).cell i hix
      have HXS : Hid _ := HSZ.out _ (List.getElem_mem hix)
      obtain ⟨X, hX⟩ : ∃ X, xs[i] = X := ⟨_, rfl⟩
      rw [hX] at hcx HXS
      have HX : Hid (xs[i]'hix = X) := hX
      subst hP0
      have hz0 : (0 : Int) ≤ (i : Int) := by omega
      have hz1 : (i : Int) < (n : Int) := by omega
      have HBK : Hid (∀ W, Calls Tryz.prog 19 #[.string X] W fun e w' => e = .returned (.agg #[.int .i64 4, .string X, .int .i64 0, .slice none 0 0]) ∧ Below W.heap.size W w') := fun W => Bulk_any X HXS.out W
      clear hX
      obtain ⟨b0, b1, b2, b3, bf⟩ := prow4 HI.out.arr
      have hId : TxI B q3 w wr.drew xs P i c := HI.out.on (Below.refl _ _).drew
      have HID : Hid _ := hId
      clear hId
      go_upto_region 5 with fail
      go_region_law (first
        | (refine step_append_rp rfl (.tmp 14) (.tmp 17) rfl (q3 + 1) (Nat.le_trans (row_lt hI2.arr) (by simp)) (.slice P i c) i (rpC (xs.take i)) rfl (own_on hI2.own ((Below.refl _ _).alloc (Nat.le_refl _) _)) w2.heap.size X rfl (cell_four_new _ _ _ _ _ _) (by omega) ?_; intro v7 w7 ho7 hg7; obtain ⟨P7, c7, hf7⟩ := own_form ho7; subst hf7; obtain ⟨hr7, hI7⟩ := hI2.grow hix _ (by rw [HX.out]; exact ho7) hg7; have HI7 : Hid _ := hI7; clear hI7; obtain ⟨d0, d1, d2, d3, df⟩ := prow4 hr7)
        | (go_simp; refine (show Calls _ _ _ _ _ from HBK.out _).mono ?_; rintro e w2 ⟨rfl, hbx⟩; have hI2 := HID.out.on hbx; obtain ⟨y0, y1, y2, y3, yf⟩ := prow4 hI2.arr; have ya := cell_on y3 ((Below.refl _ w2).alloc (Nat.le_refl _) (.cells #[.int .i64 4, .string X, .int .i64 0, .slice none 0 0] 24)); clear hbx))
      all_goals
        clear ho7 hg7 hr7 b0 b1 b2 b3 bf d0 d1 d2 d3 df hI2 y0 y1 y2 y3 yf ya
        obtain ⟨W8, hW8⟩ : ∃ W, W = w7.setCell ⟨q3, 3, none⟩ (.slice P7 (i + 1) c7) := ⟨_, rfl⟩
        rw [← hW8] at HI7 ⊢
        clear hW8
        go_wp2
        go_roundw
        case rel => exact ⟨i + 1, P7, c7, ⟨hlt, HI7.out⟩, rfl⟩
        case measure => simp [intOf]; omega
    · have hin : i = n := by omega
      subst hin
      have etk : xs.take i = xs := List.take_of_length_le (by rw [HN.out]; exact Nat.le_refl _)
      obtain ⟨b0, b1, b2, b3, bf⟩ := prow4 HI.out.arr
      obtain ⟨r0, r1, r2, r3, rf⟩ := prow4 HI.out.res
      have HOW : Hid (wr.ownsRow (q3 + 1) 24 4 (.slice P i c) i (rpC xs)) := by have h9 := HI.out.own; rw [etk] at h9; exact h9
      clear etk
      go_wp2
      exact rp_fin _ 2 Tryz.results21 HI.out.res _ _ _ _ _ (fun w' ho => ⟨⟨P, c, rfl, own_bv (own_stays' HOW.out (fun g hg => ho.other g (fun e => by have := own_block HOW.out g hg; have := HI.out.lo; omega))) HN.out⟩, HI.out.bel.trans (ho.below (Nat.le_refl _))⟩) _ rfl rfl
end Go.Proofs.YtbmfbpcjokbjkaaGreatDoor
