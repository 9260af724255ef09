import Derived.Test.YtgbplghokciimaaDoorPly
import Derived.Maps.AppendAt
namespace Go.Proofs.YtgbplghokciimaaDoor
open Go.RowKit I
set_option linter.unusedVariables false
theorem gb_trans {A B C : World} {row : Option Nat} (h1 : A.grownBy B row) (h2 : B.grownBy C row) : A.grownBy C row :=
  ⟨h2.1.trans h1.1, h2.2.trans h1.2, h2.3.trans h1.3, Nat.le_trans h1.size h2.size, fun k hk hn => (h2.block k (Nat.lt_of_lt_of_le hk h1.size) hn).trans (h1.block k hk hn)⟩
theorem ERow.lt {Q : Nat → Prop} {w : World} {v : Value} {l : List En} (h : ERow Q w v l) : ERow (fun k => k < w.heap.size) w v l := by
  rcases h with h | ⟨g, cap, e, hq, hcp, hg, hc⟩
  · exact Or.inl h
  · exact Or.inr ⟨g, cap, e, hg, hcp, hg, hc⟩
/-- what must not change while the lists that were told are written over. -/
structure FrS (w : World) (p q db : Nat) (S Sq : SkS) (N : Nat) (seed : Int) (vd vb : Value) (n B1 B2 B3 : Nat) (W : World) : Prop where
  bp : Bd W p S N
  bq : Bd W q Sq 0
  er : ERow (fun k => k < B1) W vd (ens S.T)
  dr : W.heap[db]? = some (.cells #[.int .i64 seed, vd] 51)
  bl : W.ownsRow B2 39 3 vb n (flatV (ens S.T))
  vbk : ∀ r, vb.ownBlock = some r → r < B3
  pb : ∀ k ∈ bblk p S, k < B1
  qb : ∀ k ∈ bblk q Sq, k < B1
  db1 : db < B1
  bel : Below w.heap.size w W
  b3 : B3 ≤ W.heap.size
theorem FrS.grow {w : World} {p q db : Nat} {S Sq : SkS} {N : Nat} {seed : Int} {vd vb : Value} {n B1 B2 B3 : Nat} {W W' : World} {row : Option Nat} (h : FrS w p q db S Sq N seed vd vb n B1 B2 B3 W) (hg : W.grownBy W' row) (hr : ∀ r, row = some r → w.heap.size ≤ r ∧ B1 ≤ r ∧ (r < B2 ∨ B3 ≤ r)) : FrS w p q db S Sq N seed vd vb n B1 B2 B3 W' := by
  have hne : ∀ k, k < B1 → some k ≠ row := fun k hk e => by have := hr k e.symm; omega
  refine ⟨h.bp.to (fun k hk => hg.block k (h.bp.lts k hk) (hne k (h.pb k hk))), h.bq.to (fun k hk => hg.block k (h.bq.lts k hk) (hne k (h.qb k hk))), ?_, (hg.block db (row_lt h.dr) (hne db h.db1)).trans h.dr, ?_, h.vbk, h.pb, h.qb, h.db1, h.bel.grown hg h.bel.size (fun r e => (hr r e).1), Nat.le_trans h.b3 hg.size⟩
  · rcases h.er with e | ⟨g, cap, e, hq, hcp, hgl, hc⟩
    · exact Or.inl e
    · exact Or.inr ⟨g, cap, e, hq, hcp, Nat.lt_of_lt_of_le hgl hg.size, fun j u hu => (World.cell?_of_block (a := ⟨g, j, none⟩) (hg.block g hgl (hne g hq))).trans (hc j u hu)⟩
  · refine World.ownsRow.kept h.bl hg ?_
    rcases hb : vb.ownBlock with _ | b
    · exact Or.inl rfl
    · refine Or.inr (fun e => ?_)
      have h1 := h.vbk b hb
      have h2 := own_ge h.bl b hb
      have h3 := hr b e.symm
      omega
theorem FrS.on {w : World} {p q db : Nat} {S Sq : SkS} {N : Nat} {seed : Int} {vd vb : Value} {n B1 B2 B3 : Nat} {W W' : World} (h : FrS w p q db S Sq N seed vd vb n B1 B2 B3 W) (hb : Below W.heap.size W W') : FrS w p q db S Sq N seed vd vb n B1 B2 B3 W' := h.grow (grown_of_below hb) (fun r e => by cases e)
theorem own_on {w w' : World} {base e size : Nat} {v : Value} {n : Nat} {xs : List Value} (h : w.ownsRow base e size v n xs) (hb : Below w.heap.size w w') : w'.ownsRow base e size v n xs := own_keep h (fun q _ hq => hb.block q hq)
theorem own_lt {w : World} {base e size : Nat} {v : Value} {n : Nat} {xs : List Value} (h : w.ownsRow base e size v n xs) : ∀ r, v.ownBlock = some r → r < w.heap.size := fun r hr => (World.ownsRow.lt h r hr).2
set_option maxHeartbeats 8000000 in
set_option maxRecDepth 100000 in
theorem SkiplistOwn_walk (seed : Int) (ad : Option Addr) (len cap g off : Nat) (had : len ≠ 0 → ad = some ⟨g, off, none⟩) (hlen : len ≤ 9223372036854775807) (w : World) (hops : ∀ i, i < len → ∃ o, OpAt w g off i o) (hT : Tab w) : Calls Tryd.prog 4 #[.agg #[.int .i64 seed, .slice ad len cap]] w fun e w' => e = .returned (.bool true) ∧ Below w.heap.size w w' := by
  obtain ⟨W0, hW0⟩ : ∃ W0, W0 = w.alloc (.cells #[.int .i64 seed, .slice ad len cap] 24) := ⟨_, rfl⟩
  have hb0 : Below w.heap.size w W0 := by rw [hW0]; exact (Below.refl _ _).alloc (Nat.le_refl _) _
  have HC0 : Hid (W0.heap[w.heap.size]? = some (.cells #[.int .i64 seed, .slice ad len cap] 24)) := by rw [hW0]; exact one_alloc _ _
  have HB0 : Hid (Below w.heap.size w W0) := hb0
  have HOP : Hid (∀ i, i < len → ∃ o, OpAt w g off i o) := hops
  have HAD : Hid (len ≠ 0 → ad = some ⟨g, off, none⟩) := had
  have HT : Hid (Tab w) := hT
  have HN : Hid _ := fun s W => I.New_any s W
  have HRN : Hid _ := fun W => rNew_any seed W
  have c00 : W0.cell? ⟨w.heap.size, 0, none⟩ = some (.int .i64 seed) := by rw [cell_of_row _ _ _ _ _ _ HC0.out]; rfl
  clear hb0 hops had hT
  go_enter Tryd.func4, Tryd.ntmps4
  go_upto_region 1 with fail
  rw [← hW0]
  clear hW0
  obtain ⟨cb, hcb⟩ : ∃ cb, w.heap.size = cb := ⟨_, rfl⟩
  rw [hcb] at c00 HC0 ⊢
  have HCB : Hid (w.heap.size = cb) := hcb
  clear hcb
  go_wp2_with fail
  refine (show Calls _ _ _ _ _ from HN.out seed W0).mono ?_
  rintro e w1 ⟨p, S0, rfl, hbd, hsd, hT0, hF0, hb1⟩
  have HI0 : Hid (Bd w1 p S0 0 ∧ S0.seed = seed ∧ S0.T = [] ∧ (∀ k ∈ bblk p S0, W0.heap.size ≤ k) ∧ Below W0.heap.size W0 w1) := ⟨hbd, hsd, hT0, hF0, hb1⟩
  have c01 := cell_on c00 hb1
  clear hbd hsd hT0 hF0 hb1 c00
  obtain ⟨s1, hs1⟩ : ∃ s1, IntKind.i64.wrap (seed + 1) = s1 := ⟨_, rfl⟩
  go_wp2_with (fail)
  refine (show Calls _ _ _ _ _ from HN.out s1 w1).mono ?_
  rintro e w2 ⟨q, Sq, rfl, hbq, hsq, hTq, hFq, hb2⟩
  have HI1 : Hid (Bd w2 q Sq 0 ∧ Sq.T = [] ∧ (∀ k ∈ bblk q Sq, w1.heap.size ≤ k) ∧ Below w1.heap.size w1 w2) := ⟨hbq, hTq, hFq, hb2⟩
  have c02 := cell_on c01 hb2
  clear hbq hsq hTq hFq hb2 c01 hs1
  go_wp2_with fail
  refine (show Calls _ _ _ _ _ from HRN.out w2).mono ?_
  rintro e w3 ⟨rfl, hb2⟩
  obtain ⟨W3, hW3⟩ : ∃ W3, W3 = w3.alloc (.cells #[.int .i64 seed, .slice none 0 0] 51) := ⟨_, rfl⟩
  have hb3 : Below w3.heap.size w3 W3 := by rw [hW3]; exact (Below.refl _ _).alloc (Nat.le_refl _) _
  have hw3 : Below w2.heap.size w2 W3 := bel_to hb2 hb3 (Nat.le_refl _)
  have HD3 : Hid (W3.heap[w3.heap.size]? = some (.cells #[.int .i64 seed, .slice none 0 0] 51)) := by rw [hW3]; exact one_alloc _ _
  have HW3 : Hid (Below w2.heap.size w2 W3) := hw3
  have hz1 : w2.heap.size ≤ w3.heap.size := hb2.size
  go_upto_region 4 with fail
  rw [← hW3]
  clear hW3 hb3 hw3 c02 hb2
  obtain ⟨db, hdb⟩ : ∃ db, w3.heap.size = db := ⟨_, rfl⟩
  rw [hdb] at HD3 hz1 ⊢
  have HDZ : Hid (w2.heap.size ≤ db) := hz1
  clear hdb hz1
  have HDQ : Hid (db ∉ bblk q Sq) := fun hm => by
    have := HI1.out.1.lts db hm
    have := HDZ.out
    omega
  go_wp2
  go_loopw [6] (fun ci wr => ∃ (i : Nat) (S : SkS) (vd : Value), i ≤ 100 ∧ ci = .int .i64 (i : Int) ∧ Bd wr p S i ∧ S.seed = seed ∧ ERow (fun q => q ∉ bblk p S) wr vd (ens S.T) ∧ wr.heap[db]? = some (.cells #[.int .i64 seed, vd] 51) ∧ db ∉ bblk p S ∧ (∀ q ∈ bblk p S, W0.heap.size ≤ q) ∧ Below W0.heap.size W0 wr ∧ Bd wr q Sq 0 ∧ (∀ k ∈ bblk q Sq, k ∉ bblk p S)) (fun ci _ => 100 - (intOf ci).toNat)
  case atStart =>
    obtain ⟨h1, h2, h3, h4, h5⟩ := HI0.out
    obtain ⟨k1, k2, k3, k4⟩ := HI1.out
    refine ⟨0, S0, .slice none 0 0, by omega, rfl, (h1.below k4).below HW3.out, h2, Or.inl ⟨by rw [h3]; rfl, rfl⟩, HD3.out, fun hm => ?_, h4, bel_to (bel_to h5 k4 (Nat.le_refl _)) HW3.out (Nat.le_refl _), k1.below HW3.out, fun k hk hm => ?_⟩
    · have := h1.lts db hm
      have := k4.size
      have := HDZ.out
      omega
    · have := h1.lts k hm
      have := k3 k hk
      omega
  case round =>
    obtain ⟨i, S, vd, hi, rfl, hbd, hsd, her, hdr, hdn, hF, hb, hbq, hdq⟩ := hrel
    obtain ⟨Pd, cd, hvd⟩ := her.form
    subst hvd
    obtain ⟨n, hn⟩ : ∃ n, S.T.length = n := ⟨_, rfl⟩
    have HNL : Hid (S.T.length = n) := hn
    rw [ens_len, hn] at her hdr
    have HBD : Hid (Bd wr p S i) := hbd
    have HSD : Hid (S.seed = seed) := hsd
    have HER : Hid (ERow (fun q => q ∉ bblk p S) wr (.slice Pd n cd) (ens S.T)) := her
    have HDR : Hid (wr.heap[db]? = some (.cells #[.int .i64 seed, .slice Pd n cd] 51)) := hdr
    have HDN : Hid (db ∉ bblk p S) := hdn
    have HF : Hid (∀ q ∈ bblk p S, W0.heap.size ≤ q) := hF
    have HB : Hid (Below W0.heap.size W0 wr) := hb
    have HBw : Hid (Below w.heap.size w wr) := bel_to HB0.out hb (Nat.le_refl _)
    have HBQ : Hid (Bd wr q Sq 0) := hbq
    have HQD : Hid (∀ k ∈ bblk q Sq, k ∉ bblk p S) := hdq
    have hnl : n ≤ 100 := by have := hbd.len; omega
    have hrow : wr.heap[cb]? = some (.cells #[.int .i64 seed, .slice ad len cap] 24) := keep_row HC0.out hb
    have HROW : Hid _ := hrow
    have cc1 : wr.cell? ⟨cb, 1, none⟩ = some (.slice ad len cap) := by rw [cell_of_row _ _ _ _ _ _ hrow]; rfl
    obtain ⟨e0, e1, ef⟩ := cells2 hdr
    clear hbd hsd her hdr hdn hF hb hrow hn hbq hdq
    by_cases hlt : i < len ∧ i < 100
    · as_aux_lemma =>
      obtain ⟨h1, h2⟩ := hlt
      have hae := HAD.out (by omega)
      subst hae
      obtain ⟨o, hop⟩ := HOP.out i h1
      have HGW : Hid (g < W0.heap.size) := Nat.lt_of_lt_of_le (lt_of_cell hop.c17.1) HB0.out.size
      have hop := hop.keep HBw.out
      have HOK : Hid (OpOk o) := ⟨hop.t, hop.fr, hop.to, hop.a, hop.b⟩
      obtain ⟨d0, d1, d2, d3, d4, d5, d6, d7, d8, d9, d10, d11, d12, d13, d14, d15, d16⟩ := hop.c17
      have hi1 : (i : Int) < (len : Int) := by omega
      have hi2 : (i : Int) < 100 := by omega
      have hi0 : (0 : Int) ≤ (i : Int) := by omega
      have hiw : IntKind.i64.wrap ((i : Int) + 1) = (i : Int) + 1 := by rw [IntKind.wrap_i64] <;> omega
      have HST : Hid (∀ W, Below wr.heap.size wr W → Calls Tryd.prog 20 #[.pointer (some ⟨p, 0, none⟩), bval seed (.slice Pd n cd), .agg (opA o)] W (StepPost p S i W)) := fun W hW => by
        have := step_any p S i (.slice Pd n cd) o W (HBD.out.below hW) (by omega) (HER.out.on hW) (HT.out.on (bel_to HBw.out hW (Nat.le_refl _))) HOK.out
        rw [HSD.out] at this
        exact this
      clear hop
      go_upto_region 9 with fail
      go_cut [7, 8] from 44 to 54 (fun s10 s11 wx => ∃ (X : Nat) (S' : SkS) (Pr : Option Addr) (nr cr : Nat), s10 = .pointer (some ⟨X, 0, none⟩) ∧ s11 = .bool true ∧ wx.heap[X]? = some (.cells #[.int .i64 seed, .slice Pr nr cr] 51) ∧ wr.heap.size ≤ X ∧ nr = (ens S'.T).length ∧ Bd wx p S' (i + 1) ∧ S'.seed = seed ∧ ERow (fun q => q ∉ bblk p S') wx (.slice Pr nr cr) (ens S'.T) ∧ Moved wr wx (bblk p S) (bblk p S'))
      case first =>
        have hSA := And.intro (cc1) (And.intro (e0) (And.intro (e1) (And.intro (d0) (And.intro (d1) (And.intro (d2) (And.intro (d3) (And.intro (d4) (And.intro (d5) (And.intro (d6) (And.intro (d7) (And.intro (d8) (And.intro (d9) (And.intro (d10) (And.intro (d11) (And.intro (d12) (And.intro (d13) (And.intro (d14) (And.intro (d15) (d16)))))))))))))))))))
        have HLL : Hid (cb < wr.heap.size ∧ db < wr.heap.size ∧ g < wr.heap.size) := ⟨row_lt HROW.out, row_lt HDR.out, lt_of_cell d0⟩
        have HNC : Hid (cb ∉ bblk p S) := fun hm => by have := HF.out _ hm; have := row_lt HC0.out; omega
        have HNG : Hid (g ∉ bblk p S) := fun hm => by have := HF.out _ hm; have := HGW.out; omega
        have HKS : Hid (∀ w' : World, Below wr.heap.size wr w' → w'.cell? ⟨cb, 1, none⟩ = some (.slice (some ⟨g, off, none⟩) len cap) ∧ w'.cell? ⟨db, 0, none⟩ = some (.int .i64 seed) ∧ w'.cell? ⟨db, 1, none⟩ = some (.slice Pd n cd) ∧ w'.cell? ⟨g, off + i * 17, none⟩ = some (.int .i64 o.k) ∧ w'.cell? ⟨g, off + i * 17 + 1, none⟩ = some (.int .i64 o.a) ∧ w'.cell? ⟨g, off + i * 17 + 2, none⟩ = some (.int .i64 o.b) ∧ w'.cell? ⟨g, off + i * 17 + 3, none⟩ = some (.string o.t) ∧ w'.cell? ⟨g, off + i * 17 + 4, none⟩ = some (.bool o.bk) ∧ w'.cell? ⟨g, off + i * 17 + 5, none⟩ = some (.int .i64 o.lo.1) ∧ w'.cell? ⟨g, off + i * 17 + 6, none⟩ = some (.int .i64 o.lo.2.1) ∧ w'.cell? ⟨g, off + i * 17 + 7, none⟩ = some (.bool o.lo.2.2) ∧ w'.cell? ⟨g, off + i * 17 + 8, none⟩ = some (.int .i64 o.hi.1) ∧ w'.cell? ⟨g, off + i * 17 + 9, none⟩ = some (.int .i64 o.hi.2.1) ∧ w'.cell? ⟨g, off + i * 17 + 10, none⟩ = some (.bool o.hi.2.2) ∧ w'.cell? ⟨g, off + i * 17 + 11, none⟩ = some (.string o.fr.1) ∧ w'.cell? ⟨g, off + i * 17 + 12, none⟩ = some (.int .i64 o.fr.2.1) ∧ w'.cell? ⟨g, off + i * 17 + 13, none⟩ = some (.bool o.fr.2.2) ∧ w'.cell? ⟨g, off + i * 17 + 14, none⟩ = some (.string o.to.1) ∧ w'.cell? ⟨g, off + i * 17 + 15, none⟩ = some (.int .i64 o.to.2.1) ∧ w'.cell? ⟨g, off + i * 17 + 16, none⟩ = some (.bool o.to.2.2)) := fun w' hw => And.intro (cell_on cc1 hw) (And.intro (cell_on e0 hw) (And.intro (cell_on e1 hw) (And.intro (cell_on d0 hw) (And.intro (cell_on d1 hw) (And.intro (cell_on d2 hw) (And.intro (cell_on d3 hw) (And.intro (cell_on d4 hw) (And.intro (cell_on d5 hw) (And.intro (cell_on d6 hw) (And.intro (cell_on d7 hw) (And.intro (cell_on d8 hw) (And.intro (cell_on d9 hw) (And.intro (cell_on d10 hw) (And.intro (cell_on d11 hw) (And.intro (cell_on d12 hw) (And.intro (cell_on d13 hw) (And.intro (cell_on d14 hw) (And.intro (cell_on d15 hw) (cell_on d16 hw)))))))))))))))))))
        have HKM : Hid (∀ (W a : World) (F' : List Nat), Below wr.heap.size wr W → Moved W a (bblk p S) F' → (a.cell? ⟨cb, 1, none⟩ = some (.slice (some ⟨g, off, none⟩) len cap) ∧ a.cell? ⟨db, 0, none⟩ = some (.int .i64 seed) ∧ a.cell? ⟨db, 1, none⟩ = some (.slice Pd n cd) ∧ a.cell? ⟨g, off + i * 17, none⟩ = some (.int .i64 o.k) ∧ a.cell? ⟨g, off + i * 17 + 1, none⟩ = some (.int .i64 o.a) ∧ a.cell? ⟨g, off + i * 17 + 2, none⟩ = some (.int .i64 o.b) ∧ a.cell? ⟨g, off + i * 17 + 3, none⟩ = some (.string o.t) ∧ a.cell? ⟨g, off + i * 17 + 4, none⟩ = some (.bool o.bk) ∧ a.cell? ⟨g, off + i * 17 + 5, none⟩ = some (.int .i64 o.lo.1) ∧ a.cell? ⟨g, off + i * 17 + 6, none⟩ = some (.int .i64 o.lo.2.1) ∧ a.cell? ⟨g, off + i * 17 + 7, none⟩ = some (.bool o.lo.2.2) ∧ a.cell? ⟨g, off + i * 17 + 8, none⟩ = some (.int .i64 o.hi.1) ∧ a.cell? ⟨g, off + i * 17 + 9, none⟩ = some (.int .i64 o.hi.2.1) ∧ a.cell? ⟨g, off + i * 17 + 10, none⟩ = some (.bool o.hi.2.2) ∧ a.cell? ⟨g, off + i * 17 + 11, none⟩ = some (.string o.fr.1) ∧ a.cell? ⟨g, off + i * 17 + 12, none⟩ = some (.int .i64 o.fr.2.1) ∧ a.cell? ⟨g, off + i * 17 + 13, none⟩ = some (.bool o.fr.2.2) ∧ a.cell? ⟨g, off + i * 17 + 14, none⟩ = some (.string o.to.1) ∧ a.cell? ⟨g, off + i * 17 + 15, none⟩ = some (.int .i64 o.to.2.1) ∧ a.cell? ⟨g, off + i * 17 + 16, none⟩ = some (.bool o.to.2.2))) := fun W a F' hW hm => And.intro ((World.cell?_of_block (a := ⟨cb, 1, none⟩) (hm.rest cb (Nat.lt_of_lt_of_le HLL.out.1 hW.size) HNC.out)).trans (cell_on cc1 hW)) (And.intro ((World.cell?_of_block (a := ⟨db, 0, none⟩) (hm.rest db (Nat.lt_of_lt_of_le HLL.out.2.1 hW.size) HDN.out)).trans (cell_on e0 hW)) (And.intro ((World.cell?_of_block (a := ⟨db, 1, none⟩) (hm.rest db (Nat.lt_of_lt_of_le HLL.out.2.1 hW.size) HDN.out)).trans (cell_on e1 hW)) (And.intro ((World.cell?_of_block (a := ⟨g, off + i * 17, none⟩) (hm.rest g (Nat.lt_of_lt_of_le HLL.out.2.2 hW.size) HNG.out)).trans (cell_on d0 hW)) (And.intro ((World.cell?_of_block (a := ⟨g, off + i * 17 + 1, none⟩) (hm.rest g (Nat.lt_of_lt_of_le HLL.out.2.2 hW.size) HNG.out)).trans (cell_on d1 hW)) (And.intro ((World.cell?_of_block (a := ⟨g, off + i * 17 + 2, none⟩) (hm.rest g (Nat.lt_of_lt_of_le HLL.out.2.2 hW.size) HNG.out)).trans (cell_on d2 hW)) (And.intro ((World.cell?_of_block (a := ⟨g, off + i * 17 + 3, none⟩) (hm.rest g (Nat.lt_of_lt_of_le HLL.out.2.2 hW.size) HNG.out)).trans (cell_on d3 hW)) (And.intro ((World.cell?_of_block (a := ⟨g, off + i * 17 + 4, none⟩) (hm.rest g (Nat.lt_of_lt_of_le HLL.out.2.2 hW.size) HNG.out)).trans (cell_on d4 hW)) (And.intro ((World.cell?_of_block (a := ⟨g, off + i * 17 + 5, none⟩) (hm.rest g (Nat.lt_of_lt_of_le HLL.out.2.2 hW.size) HNG.out)).trans (cell_on d5 hW)) (And.intro ((World.cell?_of_block (a := ⟨g, off + i * 17 + 6, none⟩) (hm.rest g (Nat.lt_of_lt_of_le HLL.out.2.2 hW.size) HNG.out)).trans (cell_on d6 hW)) (And.intro ((World.cell?_of_block (a := ⟨g, off + i * 17 + 7, none⟩) (hm.rest g (Nat.lt_of_lt_of_le HLL.out.2.2 hW.size) HNG.out)).trans (cell_on d7 hW)) (And.intro ((World.cell?_of_block (a := ⟨g, off + i * 17 + 8, none⟩) (hm.rest g (Nat.lt_of_lt_of_le HLL.out.2.2 hW.size) HNG.out)).trans (cell_on d8 hW)) (And.intro ((World.cell?_of_block (a := ⟨g, off + i * 17 + 9, none⟩) (hm.rest g (Nat.lt_of_lt_of_le HLL.out.2.2 hW.size) HNG.out)).trans (cell_on d9 hW)) (And.intro ((World.cell?_of_block (a := ⟨g, off + i * 17 + 10, none⟩) (hm.rest g (Nat.lt_of_lt_of_le HLL.out.2.2 hW.size) HNG.out)).trans (cell_on d10 hW)) (And.intro ((World.cell?_of_block (a := ⟨g, off + i * 17 + 11, none⟩) (hm.rest g (Nat.lt_of_lt_of_le HLL.out.2.2 hW.size) HNG.out)).trans (cell_on d11 hW)) (And.intro ((World.cell?_of_block (a := ⟨g, off + i * 17 + 12, none⟩) (hm.rest g (Nat.lt_of_lt_of_le HLL.out.2.2 hW.size) HNG.out)).trans (cell_on d12 hW)) (And.intro ((World.cell?_of_block (a := ⟨g, off + i * 17 + 13, none⟩) (hm.rest g (Nat.lt_of_lt_of_le HLL.out.2.2 hW.size) HNG.out)).trans (cell_on d13 hW)) (And.intro ((World.cell?_of_block (a := ⟨g, off + i * 17 + 14, none⟩) (hm.rest g (Nat.lt_of_lt_of_le HLL.out.2.2 hW.size) HNG.out)).trans (cell_on d14 hW)) (And.intro ((World.cell?_of_block (a := ⟨g, off + i * 17 + 15, none⟩) (hm.rest g (Nat.lt_of_lt_of_le HLL.out.2.2 hW.size) HNG.out)).trans (cell_on d15 hW)) ((World.cell?_of_block (a := ⟨g, off + i * 17 + 16, none⟩) (hm.rest g (Nat.lt_of_lt_of_le HLL.out.2.2 hW.size) HNG.out)).trans (cell_on d16 hW))))))))))))))))))))
        have HKA : Hid (∀ a B : World, (a.cell? ⟨cb, 1, none⟩ = some (.slice (some ⟨g, off, none⟩) len cap) ∧ a.cell? ⟨db, 0, none⟩ = some (.int .i64 seed) ∧ a.cell? ⟨db, 1, none⟩ = some (.slice Pd n cd) ∧ a.cell? ⟨g, off + i * 17, none⟩ = some (.int .i64 o.k) ∧ a.cell? ⟨g, off + i * 17 + 1, none⟩ = some (.int .i64 o.a) ∧ a.cell? ⟨g, off + i * 17 + 2, none⟩ = some (.int .i64 o.b) ∧ a.cell? ⟨g, off + i * 17 + 3, none⟩ = some (.string o.t) ∧ a.cell? ⟨g, off + i * 17 + 4, none⟩ = some (.bool o.bk) ∧ a.cell? ⟨g, off + i * 17 + 5, none⟩ = some (.int .i64 o.lo.1) ∧ a.cell? ⟨g, off + i * 17 + 6, none⟩ = some (.int .i64 o.lo.2.1) ∧ a.cell? ⟨g, off + i * 17 + 7, none⟩ = some (.bool o.lo.2.2) ∧ a.cell? ⟨g, off + i * 17 + 8, none⟩ = some (.int .i64 o.hi.1) ∧ a.cell? ⟨g, off + i * 17 + 9, none⟩ = some (.int .i64 o.hi.2.1) ∧ a.cell? ⟨g, off + i * 17 + 10, none⟩ = some (.bool o.hi.2.2) ∧ a.cell? ⟨g, off + i * 17 + 11, none⟩ = some (.string o.fr.1) ∧ a.cell? ⟨g, off + i * 17 + 12, none⟩ = some (.int .i64 o.fr.2.1) ∧ a.cell? ⟨g, off + i * 17 + 13, none⟩ = some (.bool o.fr.2.2) ∧ a.cell? ⟨g, off + i * 17 + 14, none⟩ = some (.string o.to.1) ∧ a.cell? ⟨g, off + i * 17 + 15, none⟩ = some (.int .i64 o.to.2.1) ∧ a.cell? ⟨g, off + i * 17 + 16, none⟩ = some (.bool o.to.2.2)) → Below a.heap.size a B → (B.cell? ⟨cb, 1, none⟩ = some (.slice (some ⟨g, off, none⟩) len cap) ∧ B.cell? ⟨db, 0, none⟩ = some (.int .i64 seed) ∧ B.cell? ⟨db, 1, none⟩ = some (.slice Pd n cd) ∧ B.cell? ⟨g, off + i * 17, none⟩ = some (.int .i64 o.k) ∧ B.cell? ⟨g, off + i * 17 + 1, none⟩ = some (.int .i64 o.a) ∧ B.cell? ⟨g, off + i * 17 + 2, none⟩ = some (.int .i64 o.b) ∧ B.cell? ⟨g, off + i * 17 + 3, none⟩ = some (.string o.t) ∧ B.cell? ⟨g, off + i * 17 + 4, none⟩ = some (.bool o.bk) ∧ B.cell? ⟨g, off + i * 17 + 5, none⟩ = some (.int .i64 o.lo.1) ∧ B.cell? ⟨g, off + i * 17 + 6, none⟩ = some (.int .i64 o.lo.2.1) ∧ B.cell? ⟨g, off + i * 17 + 7, none⟩ = some (.bool o.lo.2.2) ∧ B.cell? ⟨g, off + i * 17 + 8, none⟩ = some (.int .i64 o.hi.1) ∧ B.cell? ⟨g, off + i * 17 + 9, none⟩ = some (.int .i64 o.hi.2.1) ∧ B.cell? ⟨g, off + i * 17 + 10, none⟩ = some (.bool o.hi.2.2) ∧ B.cell? ⟨g, off + i * 17 + 11, none⟩ = some (.string o.fr.1) ∧ B.cell? ⟨g, off + i * 17 + 12, none⟩ = some (.int .i64 o.fr.2.1) ∧ B.cell? ⟨g, off + i * 17 + 13, none⟩ = some (.bool o.fr.2.2) ∧ B.cell? ⟨g, off + i * 17 + 14, none⟩ = some (.string o.to.1) ∧ B.cell? ⟨g, off + i * 17 + 15, none⟩ = some (.int .i64 o.to.2.1) ∧ B.cell? ⟨g, off + i * 17 + 16, none⟩ = some (.bool o.to.2.2))) := fun a B hs hw => And.intro (cell_on hs.1 hw) (And.intro (cell_on hs.2.1 hw) (And.intro (cell_on hs.2.2.1 hw) (And.intro (cell_on hs.2.2.2.1 hw) (And.intro (cell_on hs.2.2.2.2.1 hw) (And.intro (cell_on hs.2.2.2.2.2.1 hw) (And.intro (cell_on hs.2.2.2.2.2.2.1 hw) (And.intro (cell_on hs.2.2.2.2.2.2.2.1 hw) (And.intro (cell_on hs.2.2.2.2.2.2.2.2.1 hw) (And.intro (cell_on hs.2.2.2.2.2.2.2.2.2.1 hw) (And.intro (cell_on hs.2.2.2.2.2.2.2.2.2.2.1 hw) (And.intro (cell_on hs.2.2.2.2.2.2.2.2.2.2.2.1 hw) (And.intro (cell_on hs.2.2.2.2.2.2.2.2.2.2.2.2.1 hw) (And.intro (cell_on hs.2.2.2.2.2.2.2.2.2.2.2.2.2.1 hw) (And.intro (cell_on hs.2.2.2.2.2.2.2.2.2.2.2.2.2.2.1 hw) (And.intro (cell_on hs.2.2.2.2.2.2.2.2.2.2.2.2.2.2.2.1 hw) (And.intro (cell_on hs.2.2.2.2.2.2.2.2.2.2.2.2.2.2.2.2.1 hw) (And.intro (cell_on hs.2.2.2.2.2.2.2.2.2.2.2.2.2.2.2.2.2.1 hw) (And.intro (cell_on hs.2.2.2.2.2.2.2.2.2.2.2.2.2.2.2.2.2.2.1 hw) (cell_on hs.2.2.2.2.2.2.2.2.2.2.2.2.2.2.2.2.2.2.2 hw)))))))))))))))))))
        have HKO : Hid (∀ a B : World, (a.cell? ⟨cb, 1, none⟩ = some (.slice (some ⟨g, off, none⟩) len cap) ∧ a.cell? ⟨db, 0, none⟩ = some (.int .i64 seed) ∧ a.cell? ⟨db, 1, none⟩ = some (.slice Pd n cd) ∧ a.cell? ⟨g, off + i * 17, none⟩ = some (.int .i64 o.k) ∧ a.cell? ⟨g, off + i * 17 + 1, none⟩ = some (.int .i64 o.a) ∧ a.cell? ⟨g, off + i * 17 + 2, none⟩ = some (.int .i64 o.b) ∧ a.cell? ⟨g, off + i * 17 + 3, none⟩ = some (.string o.t) ∧ a.cell? ⟨g, off + i * 17 + 4, none⟩ = some (.bool o.bk) ∧ a.cell? ⟨g, off + i * 17 + 5, none⟩ = some (.int .i64 o.lo.1) ∧ a.cell? ⟨g, off + i * 17 + 6, none⟩ = some (.int .i64 o.lo.2.1) ∧ a.cell? ⟨g, off + i * 17 + 7, none⟩ = some (.bool o.lo.2.2) ∧ a.cell? ⟨g, off + i * 17 + 8, none⟩ = some (.int .i64 o.hi.1) ∧ a.cell? ⟨g, off + i * 17 + 9, none⟩ = some (.int .i64 o.hi.2.1) ∧ a.cell? ⟨g, off + i * 17 + 10, none⟩ = some (.bool o.hi.2.2) ∧ a.cell? ⟨g, off + i * 17 + 11, none⟩ = some (.string o.fr.1) ∧ a.cell? ⟨g, off + i * 17 + 12, none⟩ = some (.int .i64 o.fr.2.1) ∧ a.cell? ⟨g, off + i * 17 + 13, none⟩ = some (.bool o.fr.2.2) ∧ a.cell? ⟨g, off + i * 17 + 14, none⟩ = some (.string o.to.1) ∧ a.cell? ⟨g, off + i * 17 + 15, none⟩ = some (.int .i64 o.to.2.1) ∧ a.cell? ⟨g, off + i * 17 + 16, none⟩ = some (.bool o.to.2.2)) → Only a B wr.heap.size → (B.cell? ⟨cb, 1, none⟩ = some (.slice (some ⟨g, off, none⟩) len cap) ∧ B.cell? ⟨db, 0, none⟩ = some (.int .i64 seed) ∧ B.cell? ⟨db, 1, none⟩ = some (.slice Pd n cd) ∧ B.cell? ⟨g, off + i * 17, none⟩ = some (.int .i64 o.k) ∧ B.cell? ⟨g, off + i * 17 + 1, none⟩ = some (.int .i64 o.a) ∧ B.cell? ⟨g, off + i * 17 + 2, none⟩ = some (.int .i64 o.b) ∧ B.cell? ⟨g, off + i * 17 + 3, none⟩ = some (.string o.t) ∧ B.cell? ⟨g, off + i * 17 + 4, none⟩ = some (.bool o.bk) ∧ B.cell? ⟨g, off + i * 17 + 5, none⟩ = some (.int .i64 o.lo.1) ∧ B.cell? ⟨g, off + i * 17 + 6, none⟩ = some (.int .i64 o.lo.2.1) ∧ B.cell? ⟨g, off + i * 17 + 7, none⟩ = some (.bool o.lo.2.2) ∧ B.cell? ⟨g, off + i * 17 + 8, none⟩ = some (.int .i64 o.hi.1) ∧ B.cell? ⟨g, off + i * 17 + 9, none⟩ = some (.int .i64 o.hi.2.1) ∧ B.cell? ⟨g, off + i * 17 + 10, none⟩ = some (.bool o.hi.2.2) ∧ B.cell? ⟨g, off + i * 17 + 11, none⟩ = some (.string o.fr.1) ∧ B.cell? ⟨g, off + i * 17 + 12, none⟩ = some (.int .i64 o.fr.2.1) ∧ B.cell? ⟨g, off + i * 17 + 13, none⟩ = some (.bool o.fr.2.2) ∧ B.cell? ⟨g, off + i * 17 + 14, none⟩ = some (.string o.to.1) ∧ B.cell? ⟨g, off + i * 17 + 15, none⟩ = some (.int .i64 o.to.2.1) ∧ B.cell? ⟨g, off + i * 17 + 16, none⟩ = some (.bool o.to.2.2))) := fun a B hs ho => And.intro ((World.cell?_of_block (a := ⟨cb, 1, none⟩) (ho.other cb (by have := HLL.out; omega))).trans hs.1) (And.intro ((World.cell?_of_block (a := ⟨db, 0, none⟩) (ho.other db (by have := HLL.out; omega))).trans hs.2.1) (And.intro ((World.cell?_of_block (a := ⟨db, 1, none⟩) (ho.other db (by have := HLL.out; omega))).trans hs.2.2.1) (And.intro ((World.cell?_of_block (a := ⟨g, off + i * 17, none⟩) (ho.other g (by have := HLL.out; omega))).trans hs.2.2.2.1) (And.intro ((World.cell?_of_block (a := ⟨g, off + i * 17 + 1, none⟩) (ho.other g (by have := HLL.out; omega))).trans hs.2.2.2.2.1) (And.intro ((World.cell?_of_block (a := ⟨g, off + i * 17 + 2, none⟩) (ho.other g (by have := HLL.out; omega))).trans hs.2.2.2.2.2.1) (And.intro ((World.cell?_of_block (a := ⟨g, off + i * 17 + 3, none⟩) (ho.other g (by have := HLL.out; omega))).trans hs.2.2.2.2.2.2.1) (And.intro ((World.cell?_of_block (a := ⟨g, off + i * 17 + 4, none⟩) (ho.other g (by have := HLL.out; omega))).trans hs.2.2.2.2.2.2.2.1) (And.intro ((World.cell?_of_block (a := ⟨g, off + i * 17 + 5, none⟩) (ho.other g (by have := HLL.out; omega))).trans hs.2.2.2.2.2.2.2.2.1) (And.intro ((World.cell?_of_block (a := ⟨g, off + i * 17 + 6, none⟩) (ho.other g (by have := HLL.out; omega))).trans hs.2.2.2.2.2.2.2.2.2.1) (And.intro ((World.cell?_of_block (a := ⟨g, off + i * 17 + 7, none⟩) (ho.other g (by have := HLL.out; omega))).trans hs.2.2.2.2.2.2.2.2.2.2.1) (And.intro ((World.cell?_of_block (a := ⟨g, off + i * 17 + 8, none⟩) (ho.other g (by have := HLL.out; omega))).trans hs.2.2.2.2.2.2.2.2.2.2.2.1) (And.intro ((World.cell?_of_block (a := ⟨g, off + i * 17 + 9, none⟩) (ho.other g (by have := HLL.out; omega))).trans hs.2.2.2.2.2.2.2.2.2.2.2.2.1) (And.intro ((World.cell?_of_block (a := ⟨g, off + i * 17 + 10, none⟩) (ho.other g (by have := HLL.out; omega))).trans hs.2.2.2.2.2.2.2.2.2.2.2.2.2.1) (And.intro ((World.cell?_of_block (a := ⟨g, off + i * 17 + 11, none⟩) (ho.other g (by have := HLL.out; omega))).trans hs.2.2.2.2.2.2.2.2.2.2.2.2.2.2.1) (And.intro ((World.cell?_of_block (a := ⟨g, off + i * 17 + 12, none⟩) (ho.other g (by have := HLL.out; omega))).trans hs.2.2.2.2.2.2.2.2.2.2.2.2.2.2.2.1) (And.intro ((World.cell?_of_block (a := ⟨g, off + i * 17 + 13, none⟩) (ho.other g (by have := HLL.out; omega))).trans hs.2.2.2.2.2.2.2.2.2.2.2.2.2.2.2.2.1) (And.intro ((World.cell?_of_block (a := ⟨g, off + i * 17 + 14, none⟩) (ho.other g (by have := HLL.out; omega))).trans hs.2.2.2.2.2.2.2.2.2.2.2.2.2.2.2.2.2.1) (And.intro ((World.cell?_of_block (a := ⟨g, off + i * 17 + 15, none⟩) (ho.other g (by have := HLL.out; omega))).trans hs.2.2.2.2.2.2.2.2.2.2.2.2.2.2.2.2.2.2.1) ((World.cell?_of_block (a := ⟨g, off + i * 17 + 16, none⟩) (ho.other g (by have := HLL.out; omega))).trans hs.2.2.2.2.2.2.2.2.2.2.2.2.2.2.2.2.2.2.2)))))))))))))))))))
        have HXR : Hid ((wr.alloc (.cells #[.int .i64 0, .slice none 0 0] 51)).drew.heap[wr.heap.size]? = some (.cells #[.int .i64 0, .slice none 0 0] 51)) := one_alloc _ _
        have HNX : Hid (wr.heap.size ∉ bblk p S) := fun hm => by have := HBD.out.lts _ hm; omega
        go_region_held3 (fun w' : World => w'.cell? ⟨cb, 1, none⟩ = some (.slice (some ⟨g, off, none⟩) len cap) ∧ w'.cell? ⟨db, 0, none⟩ = some (.int .i64 seed) ∧ w'.cell? ⟨db, 1, none⟩ = some (.slice Pd n cd) ∧ w'.cell? ⟨g, off + i * 17, none⟩ = some (.int .i64 o.k) ∧ w'.cell? ⟨g, off + i * 17 + 1, none⟩ = some (.int .i64 o.a) ∧ w'.cell? ⟨g, off + i * 17 + 2, none⟩ = some (.int .i64 o.b) ∧ w'.cell? ⟨g, off + i * 17 + 3, none⟩ = some (.string o.t) ∧ w'.cell? ⟨g, off + i * 17 + 4, none⟩ = some (.bool o.bk) ∧ w'.cell? ⟨g, off + i * 17 + 5, none⟩ = some (.int .i64 o.lo.1) ∧ w'.cell? ⟨g, off + i * 17 + 6, none⟩ = some (.int .i64 o.lo.2.1) ∧ w'.cell? ⟨g, off + i * 17 + 7, none⟩ = some (.bool o.lo.2.2) ∧ w'.cell? ⟨g, off + i * 17 + 8, none⟩ = some (.int .i64 o.hi.1) ∧ w'.cell? ⟨g, off + i * 17 + 9, none⟩ = some (.int .i64 o.hi.2.1) ∧ w'.cell? ⟨g, off + i * 17 + 10, none⟩ = some (.bool o.hi.2.2) ∧ w'.cell? ⟨g, off + i * 17 + 11, none⟩ = some (.string o.fr.1) ∧ w'.cell? ⟨g, off + i * 17 + 12, none⟩ = some (.int .i64 o.fr.2.1) ∧ w'.cell? ⟨g, off + i * 17 + 13, none⟩ = some (.bool o.fr.2.2) ∧ w'.cell? ⟨g, off + i * 17 + 14, none⟩ = some (.string o.to.1) ∧ w'.cell? ⟨g, off + i * 17 + 15, none⟩ = some (.int .i64 o.to.2.1) ∧ w'.cell? ⟨g, off + i * 17 + 16, none⟩ = some (.bool o.to.2.2))
          (first | exact hSA | exact hS1 | (refine HKS.out _ ?_; (repeat (first | exact Below.refl _ _ | refine Below.drew ?_ | refine Below.alloc ?_ (by simp <;> omega) _)); done) | (refine HKA.out _ _ hS1 ?_; (repeat (first | exact Below.refl _ _ | refine Below.drew ?_ | refine Below.alloc ?_ (by simp <;> omega) _)); done) | exact HKO.out _ _ hS1 (((Only.refl _ _).set 0 _).set 1 _))
          (first | (go_at_call 20; refine Calls.mono (HST.out _ ?_) ?_; (repeat (first | exact Below.refl _ _ | refine Below.drew ?_ | refine Below.alloc ?_ (by simp <;> omega) _)); rintro e a1 ⟨S', r, rfl, hbd, hsd, her', hmv⟩; rw [HSD.out] at hsd ⊢; have hS1 := HKM.out _ a1 _ (by repeat (first | exact Below.refl _ _ | refine Below.drew ?_ | refine Below.alloc ?_ (by simp <;> omega) _)) hmv; obtain ⟨Pr, cr, hrr⟩ := her'.form; subst hrr; obtain ⟨nr, hnr⟩ : ∃ nr, (ens S'.T).length = nr := ⟨_, rfl⟩; rw [hnr] at her' ⊢; have HNR : Hid ((ens S'.T).length = nr) := hnr; clear hnr; (try (have hxk := hmv.keep HXR.out HNX.out; obtain ⟨z0, z1, zf⟩ := cells2 hxk))))
        all_goals
          go_wp2_with fail
          go_meet
          first
          | (have hxk2 := hxk
             have hon : Only a1 ((a1.setCell ⟨wr.heap.size, 0, none⟩ (.int .i64 seed)).setCell ⟨wr.heap.size, 1, none⟩ (.slice Pr nr cr)) wr.heap.size := ((Only.refl _ _).set 0 _).set 1 _
             obtain ⟨q1, q2, q3⟩ := StepPost.box (w := wr) HBD.out.lts (((Below.refl _ wr).alloc (Nat.le_refl _) _).drew) hbd her' hmv hxk2 (Nat.le_refl _) (by show wr.heap.size < (wr.alloc _).heap.size; simp) hon
             refine ⟨wr.heap.size, S', Pr, nr, cr, rfl, rfl, ?_, Nat.le_refl _, HNR.out.symm, q1, hsd, q2, q3⟩
             rw [heap_setCell_same _ _ _ _ _ _ (heap_setCell_same _ _ _ _ _ _ hxk2)]
             rfl)
          | (have hba : Below a1.heap.size a1 (a1.alloc (.cells #[.int .i64 seed, .slice Pr nr cr] 51)) := (Below.refl _ _).alloc (Nat.le_refl _) _
             have hmw : Moved wr a1 (bblk p S) (bblk p S') := (Moved.of_below ((Below.refl _ wr).drew)).trans hmv
             exact ⟨a1.heap.size, S', Pr, nr, cr, rfl, rfl, one_alloc _ _, hmw.size, HNR.out.symm, hbd.below hba, hsd, her'.on hba, hmw.trans (Moved.of_below hba)⟩)
      case rest =>
        obtain ⟨X, S', Pr, nr, cr, rfl, rfl, hx, hX, hnr, hbd', hsd', her', hmv'⟩ := hcut
        have hdw : wc.heap[db]? = some (.cells #[.int .i64 seed, .slice Pd n cd] 51) := hmv'.keep HDR.out HDN.out
        have hdb2 := row_lt HDR.out
        have hdn' : db ∉ bblk p S' := fun hm => by
          rcases hmv'.new db hm with q | q
          · exact HDN.out q
          · omega
        obtain ⟨hbl', hF'⟩ := Moved.bel hmv' HB.out (Nat.le_refl _) HF.out
        have hbq' : Bd wc q Sq 0 := HBQ.out.to (fun k hk => hmv'.rest k (HBQ.out.lts k hk) (HQD.out k hk))
        have hdq' : ∀ k ∈ bblk q Sq, k ∉ bblk p S' := fun k hk hm => by
          rcases hmv'.new k hm with z | z
          · exact HQD.out k hk z
          · have := HBQ.out.lts k hk
            omega
        have HDW : Hid (wc.heap[db]? = some (.cells #[.int .i64 seed, .slice Pd n cd] 51)) := hdw
        obtain ⟨W9, hW9⟩ : ∃ W9, W9 = (wc.setCell ⟨db, 0, none⟩ (.int .i64 seed)).setCell ⟨db, 1, none⟩ (.slice Pr nr cr) := ⟨_, rfl⟩
        have hr9 : W9.heap[db]? = some (.cells #[.int .i64 seed, .slice Pr nr cr] 51) := by
          rw [hW9, heap_setCell_same _ _ _ _ _ _ (heap_setCell_same _ _ _ _ _ _ hdw)]
          rfl
        have hon : Only wc W9 db := by rw [hW9]; exact ((Only.refl _ db).set 0 _).set 1 _
        have hdz : W0.heap.size ≤ db := Nat.le_trans HI0.out.2.2.2.2.size (Nat.le_trans HI1.out.2.2.2.size HDZ.out)
        have HEND : Hid (Bd W9 p S' (i + 1) ∧ S'.seed = seed ∧ ERow (fun q => q ∉ bblk p S') W9 (.slice Pr nr cr) (ens S'.T) ∧ W9.heap[db]? = some (.cells #[.int .i64 seed, .slice Pr nr cr] 51) ∧ db ∉ bblk p S' ∧ (∀ q ∈ bblk p S', W0.heap.size ≤ q) ∧ Below W0.heap.size W0 W9 ∧ Bd W9 q Sq 0 ∧ (∀ k ∈ bblk q Sq, k ∉ bblk p S')) :=
          ⟨hbd'.to (fun q hq => hon.other q (fun e => hdn' (by rw [← e]; exact hq))), hsd', her'.box hdw hon, hr9, hdn', hF', hbl'.trans (hon.below hdz), hbq'.to (fun k hk => hon.other k (fun e => HDQ.out (by rw [← e]; exact hk))), hdq'⟩
        obtain ⟨x0, x1, xf⟩ := cells2 hx
        obtain ⟨b0, b1, bf⟩ := cells2 hdw
        clear hx hnr hbd' hsd' her' hmv' hdw hdn' hbl' hF' hr9 hon hdz cc1 e0 e1 ef d0 d1 d2 d3 d4 d5 d6 d7 d8 d9 d10 d11 d12 d13 d14 d15 d16 hX hdb2 hbq' hdq'
        go_upto_region 8 with fail
        rw [← hW9]
        clear hW9 x0 x1 xf b0 b1 bf
        go_wp2
        go_roundw
        case rel =>
          obtain ⟨q1, q2, q3, q4, q5, q6, q7, q8, q9⟩ := HEND.out
          exact ⟨i + 1, S', .slice Pr nr cr, by omega, by go_num, q1, q2, q3, q4, q5, q6, q7, q8, q9⟩
        case measure => simp [intOf]; omega
    · have HSL : Hid (∀ W, Below wr.heap.size wr W → Calls Tryd.prog 12 #[.pointer (some ⟨p, 0, none⟩), .int .i64 0, .int .i64 1073741824, .bool false] W fun e w' => ∃ r, e = .returned r ∧ w'.ownsRow W.heap.size 39 3 r n (flatV (ens S.T)) ∧ Below W.heap.size W w') := fun W hW => by
        have := I.Slice_all p S i W (HBD.out.below hW) (by omega)
        rw [HNL.out] at this
        exact this
      have HBS : Hid (∀ W, Below wr.heap.size wr W → Calls Tryd.prog 21 #[.pointer (some ⟨p, 0, none⟩), .agg #[.int .i64 0, .int .i64 (-1), .bool false], .agg #[.int .i64 0, .int .i64 1, .bool false], .bool false, .int .i64 0, .int .i64 (-1)] W fun e w' => ∃ r m xs, e = .returned r ∧ w'.ownsRow W.heap.size 39 3 r m xs ∧ m ≤ 1000000 ∧ Below W.heap.size W w') := fun W hW => by
        refine (I.ByScore_any p S i (0, -1, false) (0, 1, false) false 0 (-1) (by unfold i64B; omega) (by unfold i64B; omega) W (HBD.out.below hW) (by omega)).mono ?_
        rintro e w' ⟨r, h1, h2, h3⟩
        refine ⟨r, _, _, h1, h2, ?_, h3⟩
        have ha := List.length_filter_le (fun e : En => loS e.2.1 (0, -1, false) && hiS e.2.1 (0, 1, false)) (ens S.T)
        rw [ens_len, HNL.out] at ha
        have hb : (cutE (turnE (rngS (ens S.T) (0, -1, false) (0, 1, false)) false) 0 (-1)).length = (rngS (ens S.T) (0, -1, false) (0, 1, false)).length := by simp [cutE, turnE]
        rw [hb]
        unfold rngS
        omega
      have HTA : Hid (∀ W, Below wr.heap.size wr W → Calls Tryd.prog 17 #[.pointer (some ⟨p, 0, none⟩)] W fun e w' => ∃ r, e = .returned r ∧ w'.ownsRow W.heap.size 3 1 r S.H ((talL S).map (Value.int .i64)) ∧ Below W.heap.size W w') := fun W hW => I.Tall_any p S i W (HBD.out.below hW)
      rcases Nat.lt_or_ge i len with hl | hl
      · as_aux_lemma =>
        have hi1 : (i : Int) < (len : Int) := by omega
        have hi2 : ¬ (i : Int) < 100 := by omega
        go_upto_region 13 with fail
        clear hi1 hi2 cc1 hlt hl
        go_wp2_with fail
        refine (show Calls _ _ _ _ _ from HSL.out wr (Below.refl _ _)).mono ?_
        rintro e w4 ⟨va, rfl, howa, hb4⟩
        have HOA : Hid (w4.ownsRow wr.heap.size 39 3 va n (flatV (ens S.T))) := howa
        have HB4 : Hid (Below wr.heap.size wr w4) := hb4
        clear howa hb4
        go_wp2_with fail
        refine (show Calls _ _ _ _ _ from HSL.out w4 HB4.out).mono ?_
        rintro e w5 ⟨vb, rfl, howb, hb5⟩
        have HB5 : Hid (Below w4.heap.size w4 w5) := hb5
        have HOB : Hid (w5.ownsRow w4.heap.size 39 3 vb n (flatV (ens S.T))) := howb
        clear howb hb5
        go_wp2_with fail
        refine (show Calls _ _ _ _ _ from HBS.out w5 (bel_to HB4.out HB5.out (Nat.le_refl _))).mono ?_
        rintro e w6 ⟨ve, m, xe, rfl, howe, hm6, hb6⟩
        have HB6 : Hid (Below w5.heap.size w5 w6) := hb6
        have HOE : Hid (w6.ownsRow w5.heap.size 39 3 ve m xe) := howe
        have HM6 : Hid (m ≤ 1000000) := hm6
        clear howe hb6 hm6
        go_wp2_with fail
        refine (show Calls _ _ _ _ _ from HTA.out w6 (bel_to (bel_to HB4.out HB5.out (Nat.le_refl _)) HB6.out (Nat.le_refl _))).mono ?_
        rintro e w7 ⟨vt, rfl, howt, hb7⟩
        have HB7 : Hid (Below w6.heap.size w6 w7) := hb7
        have HOT : Hid (∃ xt, w7.ownsRow w6.heap.size 3 1 vt S.H xt) := ⟨_, howt⟩
        clear howt hb7
        have hwr7 : Below wr.heap.size wr w7 := bel_to (bel_to (bel_to HB4.out HB5.out (Nat.le_refl _)) HB6.out (Nat.le_refl _)) HB7.out (Nat.le_refl _)
        have HW7 : Hid (Below wr.heap.size wr w7) := hwr7
        have h57 : Below w5.heap.size w5 w7 := bel_to HB6.out HB7.out (Nat.le_refl _)
        have h47 : Below w4.heap.size w4 w7 := bel_to HB5.out h57 (Nat.le_refl _)
        obtain ⟨B2, hB2⟩ : ∃ B2, w4.heap.size = B2 := ⟨_, rfl⟩
        obtain ⟨B3, hB3⟩ : ∃ B3, w5.heap.size = B3 := ⟨_, rfl⟩
        obtain ⟨B4, hB4⟩ : ∃ B4, w6.heap.size = B4 := ⟨_, rfl⟩
        have HFR7 : Hid (FrS w p q db S Sq i seed (.slice Pd n cd) vb n wr.heap.size B2 B3 w7) := by
          refine ⟨HBD.out.below hwr7, HBQ.out.below hwr7, HER.out.lt.on hwr7, keep_row HDR.out hwr7, ?_, fun r hr => ?_, HBD.out.lts, HBQ.out.lts, row_lt HDR.out, bel_to HBw.out hwr7 (Nat.le_refl _), by rw [← hB3]; exact h57.size⟩
          · rw [← hB2]; exact own_on HOB.out h57
          · rw [← hB3]; exact own_lt HOB.out r hr
        have HOA7 : Hid (∃ xa, w7.ownsRow wr.heap.size 39 3 va n xa) := ⟨_, own_on HOA.out h47⟩
        have HOE7 : Hid (∃ xe, w7.ownsRow B3 39 3 ve m xe) := ⟨_, by rw [← hB3]; exact own_on HOE.out HB7.out⟩
        have HOT7 : Hid (∃ xt, w7.ownsRow B4 3 1 vt S.H xt) := by rw [← hB4]; exact HOT.out
        have HAB : Hid (∀ r, va.ownBlock = some r → wr.heap.size ≤ r ∧ r < B2) := fun r hr => ⟨own_ge HOA.out r hr, by rw [← hB2]; exact own_lt HOA.out r hr⟩
        have HEB : Hid (∀ r, ve.ownBlock = some r → B3 ≤ r ∧ r < B4) := fun r hr => ⟨by rw [← hB3]; exact own_ge HOE.out r hr, by rw [← hB4]; exact own_lt HOE.out r hr⟩
        have HTBk : Hid (∀ r, vt.ownBlock = some r → B4 ≤ r) := fun r hr => by obtain ⟨xt, hx⟩ := HOT7.out; exact own_ge hx r hr
        have HZB : Hid (w.heap.size ≤ wr.heap.size ∧ wr.heap.size ≤ B2 ∧ B2 ≤ B3 ∧ B3 ≤ B4) := ⟨HBw.out.size, by rw [← hB2]; exact HB4.out.size, by rw [← hB2, ← hB3]; exact HB5.out.size, by rw [← hB3, ← hB4]; exact HB6.out.size⟩
        have HSA : Hid _ := same_yes _ _ va (.slice Pd n cd) (ens S.T) (by rw [ens_len, HNL.out]; omega) w7 (by rw [ens_len, HNL.out]; exact own_on HOA.out h47) (HER.out.on hwr7)
        have f1 := cell_on e1 hwr7
        clear hwr7 h57 h47 hB2 hB3 hB4 HOA HOB HOE HOT HB4 HB5 HB6 HB7 e0 e1
        go_wp2_with fail
        refine (show Calls _ _ _ _ _ from HSA.out).mono ?_
        rintro e w8 ⟨rfl, hb8⟩
        have HFR8 : Hid (FrS w p q db S Sq i seed (.slice Pd n cd) vb n wr.heap.size B2 B3 w8) := HFR7.out.on hb8
        have HOA8 : Hid (∃ xa, w8.ownsRow wr.heap.size 39 3 va n xa) := HOA7.out.imp (fun _ h => own_on h hb8)
        have HOE8 : Hid (∃ xe, w8.ownsRow B3 39 3 ve m xe) := HOE7.out.imp (fun _ h => own_on h hb8)
        have HOT8 : Hid (∃ xt, w8.ownsRow B4 3 1 vt S.H xt) := HOT7.out.imp (fun _ h => own_on h hb8)
        have h24 : S.H ≤ 24 := HBD.out.h24
        clear hb8 f1 HFR7 HOA7 HOE7 HOT7
        obtain ⟨Pa, ca, hva⟩ := own_form HOA8.out.choose_spec
        subst hva
        obtain ⟨Pe, ce, hve⟩ := own_form HOE8.out.choose_spec
        subst hve
        obtain ⟨Pt, ct, hvt⟩ := own_form HOT8.out.choose_spec
        subst hvt
        obtain ⟨HH, hHH⟩ : ∃ HH, S.H = HH := ⟨_, rfl⟩
        rw [hHH] at HOT8 HTBk h24 ⊢
        have HHE : Hid (S.H = HH) := hHH
        clear hHH
        go_wp2
        go_loopw [13] (fun ci W => ∃ j : Nat, j ≤ n ∧ ci = .int .i64 (j : Int) ∧ FrS w p q db S Sq i seed (.slice Pd n cd) vb n wr.heap.size B2 B3 W ∧ (∃ xa, W.ownsRow wr.heap.size 39 3 (.slice Pa n ca) n xa) ∧ (∃ xe, W.ownsRow B3 39 3 (.slice Pe m ce) m xe) ∧ (∃ xt, W.ownsRow B4 3 1 (.slice Pt HH ct) HH xt)) (fun ci _ => n - (intOf ci).toNat)
        case atStart => exact ⟨0, Nat.zero_le _, rfl, HFR8.out, HOA8.out, HOE8.out, HOT8.out⟩
        case round =>
          obtain ⟨j, hj, rfl, hfr, ⟨xa, hxa⟩, ⟨xe', hxe⟩, ⟨xt', hxt⟩⟩ := hrel
          rename World => W
          by_cases hlt : j < n
          · as_aux_lemma =>
            obtain ⟨ga, rfl⟩ : ∃ ga, Pa = some ⟨ga, 0, none⟩ := by
              rcases hxa.2 with ⟨e, h0⟩ | ⟨g', cap', cur, e, _⟩
              · omega
              · injection e with e1 e2 e3
                exact ⟨g', e1⟩
            have hxl := hxa.1
            obtain ⟨u0, hu0⟩ : ∃ u, xa[j * 3]? = some u := ⟨_, List.getElem?_eq_getElem (by omega)⟩
            obtain ⟨u1, hu1⟩ : ∃ u, xa[j * 3 + 1]? = some u := ⟨_, List.getElem?_eq_getElem (by omega)⟩
            obtain ⟨u2, hu2⟩ : ∃ u, xa[j * 3 + 2]? = some u := ⟨_, List.getElem?_eq_getElem (by omega)⟩
            have c0 : W.cell? ⟨ga, j * 3, none⟩ = some u0 := (World.ownsRow.cellAt hxa _ (by omega)).trans hu0
            have c1 : W.cell? ⟨ga, j * 3 + 1, none⟩ = some u1 := (World.ownsRow.cellAt hxa _ (by omega)).trans hu1
            have c2 : W.cell? ⟨ga, j * 3 + 2, none⟩ = some u2 := (World.ownsRow.cellAt hxa _ (by omega)).trans hu2
            have cf : ∀ k, W.frozen? ⟨ga, k, none⟩ = false := fun k => World.ownsRow.frozenAt hxa k
            have HST : Hid (∀ a b c, (∃ xa', (((W.setCell ⟨ga, j * 3, none⟩ a).setCell ⟨ga, j * 3 + 1, none⟩ b).setCell ⟨ga, j * 3 + 2, none⟩ c).ownsRow wr.heap.size 39 3 (.slice (some ⟨ga, 0, none⟩) n ca) n xa') ∧ W.grownBy (((W.setCell ⟨ga, j * 3, none⟩ a).setCell ⟨ga, j * 3 + 1, none⟩ b).setCell ⟨ga, j * 3 + 2, none⟩ c) (some ga)) := fun a b c => by
              have s1 := World.ownsRow.stored hxa (j * 3) a
              have s2 := World.ownsRow.stored s1.1 (j * 3 + 1) b
              have s3 := World.ownsRow.stored s2.1 (j * 3 + 2) c
              exact ⟨⟨_, s3.1⟩, gb_trans (gb_trans s1.2 s2.2) s3.2⟩
            have HGA : Hid (wr.heap.size ≤ ga ∧ ga < B2) := HAB.out ga rfl
            have HFW : Hid (FrS w p q db S Sq i seed (.slice Pd n cd) vb n wr.heap.size B2 B3 W) := hfr
            have HXE : Hid _ := hxe
            have HXT : Hid _ := hxt
            have hj0 : (0 : Int) ≤ (j : Int) := by omega
            have hj1 : (j : Int) < (n : Int) := by omega
            have hjw : IntKind.i64.wrap ((j : Int) + 1) = (j : Int) + 1 := by rw [IntKind.wrap_i64] <;> omega
            have hgl : ga < W.heap.size := lt_of_cell c0
            clear hfr hxa hxe hxt hxl hu0 hu1 hu2
            go_wp2
            go_roundw
            case rel =>
              obtain ⟨q1, q2⟩ := HST.out (.string ⟨#[115, 112, 111, 105, 108, 116]⟩) (.int .i64 0) (.int .i64 0)
              have hz := HZB.out
              have hga := HGA.out
              refine ⟨j + 1, by omega, by go_num, HFW.out.grow q2 (fun r e => ?_), q1, ⟨_, World.ownsRow.kept HXE.out q2 ?_⟩, ⟨_, World.ownsRow.kept HXT.out q2 ?_⟩⟩
              · injection e with e
                omega
              · rcases hb : (Value.slice Pe m ce).ownBlock with _ | b
                · exact Or.inl rfl
                · refine Or.inr (fun e => ?_)
                  injection e with e
                  have := HEB.out b hb
                  omega
              · rcases hb : (Value.slice Pt HH ct).ownBlock with _ | b
                · exact Or.inl rfl
                · refine Or.inr (fun e => ?_)
                  injection e with e
                  have := HTBk.out b hb
                  omega
            case measure => simp [intOf]; omega
          · have hj1 : ¬ (j : Int) < (n : Int) := by omega
            have HFW : Hid (FrS w p q db S Sq i seed (.slice Pd n cd) vb n wr.heap.size B2 B3 W) := hfr
            have HXA : Hid (∃ xa, W.ownsRow wr.heap.size 39 3 (.slice Pa n ca) n xa) := ⟨_, hxa⟩
            have HXE : Hid (∃ xe, W.ownsRow B3 39 3 (.slice Pe m ce) m xe) := ⟨_, hxe⟩
            have HXT : Hid (∃ xt, W.ownsRow B4 3 1 (.slice Pt HH ct) HH xt) := ⟨_, hxt⟩
            clear hfr hxa hxe hxt HFR8 HOA8 HOE8 HOT8 hlt
            go_wp2
            go_loopw [14] (fun ci W' => ∃ j : Nat, j ≤ m ∧ ci = .int .i64 (j : Int) ∧ FrS w p q db S Sq i seed (.slice Pd n cd) vb n wr.heap.size B2 B3 W' ∧ (∃ xa, W'.ownsRow wr.heap.size 39 3 (.slice Pa n ca) n xa) ∧ (∃ xe, W'.ownsRow B3 39 3 (.slice Pe m ce) m xe) ∧ (∃ xt, W'.ownsRow B4 3 1 (.slice Pt HH ct) HH xt)) (fun ci _ => m - (intOf ci).toNat)
            case atStart => exact ⟨0, Nat.zero_le _, rfl, HFW.out, HXA.out, HXE.out, HXT.out⟩
            case round =>
              obtain ⟨k, hk, rfl, hfr, ⟨xa', hxa⟩, ⟨xe', hxe⟩, ⟨xt', hxt⟩⟩ := hrel
              rename World => V
              have hm6 := HM6.out
              by_cases hlt : k < m
              · as_aux_lemma =>
                obtain ⟨ge, rfl⟩ : ∃ ge, Pe = some ⟨ge, 0, none⟩ := by
                  rcases hxe.2 with ⟨e, h0⟩ | ⟨g', cap', cur, e, _⟩
                  · omega
                  · injection e with e1 e2 e3
                    exact ⟨g', e1⟩
                have hxl := hxe.1
                obtain ⟨u0, hu0⟩ : ∃ u, xe'[k * 3]? = some u := ⟨_, List.getElem?_eq_getElem (by omega)⟩
                obtain ⟨u1, hu1⟩ : ∃ u, xe'[k * 3 + 1]? = some u := ⟨_, List.getElem?_eq_getElem (by omega)⟩
                obtain ⟨u2, hu2⟩ : ∃ u, xe'[k * 3 + 2]? = some u := ⟨_, List.getElem?_eq_getElem (by omega)⟩
                have c0 : V.cell? ⟨ge, k * 3, none⟩ = some u0 := (World.ownsRow.cellAt hxe _ (by omega)).trans hu0
                have c1 : V.cell? ⟨ge, k * 3 + 1, none⟩ = some u1 := (World.ownsRow.cellAt hxe _ (by omega)).trans hu1
                have c2 : V.cell? ⟨ge, k * 3 + 2, none⟩ = some u2 := (World.ownsRow.cellAt hxe _ (by omega)).trans hu2
                have cf : ∀ k, V.frozen? ⟨ge, k, none⟩ = false := fun k => World.ownsRow.frozenAt hxe k
                have HST : Hid (∀ a b c, (∃ xa', (((V.setCell ⟨ge, k * 3, none⟩ a).setCell ⟨ge, k * 3 + 1, none⟩ b).setCell ⟨ge, k * 3 + 2, none⟩ c).ownsRow B3 39 3 (.slice (some ⟨ge, 0, none⟩) m ce) m xa') ∧ V.grownBy (((V.setCell ⟨ge, k * 3, none⟩ a).setCell ⟨ge, k * 3 + 1, none⟩ b).setCell ⟨ge, k * 3 + 2, none⟩ c) (some ge)) := fun a b c => by
                  have s1 := World.ownsRow.stored hxe (k * 3) a
                  have s2 := World.ownsRow.stored s1.1 (k * 3 + 1) b
                  have s3 := World.ownsRow.stored s2.1 (k * 3 + 2) c
                  exact ⟨⟨_, s3.1⟩, gb_trans (gb_trans s1.2 s2.2) s3.2⟩
                have HGA : Hid (B3 ≤ ge ∧ ge < B4) := HEB.out ge rfl
                have HFV : Hid (FrS w p q db S Sq i seed (.slice Pd n cd) vb n wr.heap.size B2 B3 V) := hfr
                have HVA : Hid _ := hxa
                have HVT : Hid _ := hxt
                have hj0 : (0 : Int) ≤ (k : Int) := by omega
                have hj1 : (k : Int) < (m : Int) := by omega
                have hjw : IntKind.i64.wrap ((k : Int) + 1) = (k : Int) + 1 := by rw [IntKind.wrap_i64] <;> omega
                have hgl : ge < V.heap.size := lt_of_cell c0
                clear hfr hxa hxe hxt hxl hu0 hu1 hu2
                go_wp2
                go_roundw
                case rel =>
                  obtain ⟨q1, q2⟩ := HST.out (.string ⟨#[119, 111, 114, 110]⟩) (.int .i64 0) (.int .i64 0)
                  have hz := HZB.out
                  have hga := HGA.out
                  refine ⟨k + 1, by omega, by go_num, HFV.out.grow q2 (fun r e => ?_), ⟨_, World.ownsRow.kept HVA.out q2 ?_⟩, q1, ⟨_, World.ownsRow.kept HVT.out q2 ?_⟩⟩
                  · injection e with e
                    omega
                  · rcases hb : (Value.slice Pa n ca).ownBlock with _ | b
                    · exact Or.inl rfl
                    · refine Or.inr (fun e => ?_)
                      injection e with e
                      have := HAB.out b hb
                      omega
                  · rcases hb : (Value.slice Pt HH ct).ownBlock with _ | b
                    · exact Or.inl rfl
                    · refine Or.inr (fun e => ?_)
                      injection e with e
                      have := HTBk.out b hb
                      omega
                case measure => simp [intOf]; omega
              · have hj1 : ¬ (k : Int) < (m : Int) := by omega
                have HFV : Hid (FrS w p q db S Sq i seed (.slice Pd n cd) vb n wr.heap.size B2 B3 V) := hfr
                have HVA : Hid (∃ xa, V.ownsRow wr.heap.size 39 3 (.slice Pa n ca) n xa) := ⟨_, hxa⟩
                have HVT : Hid (∃ xt, V.ownsRow B4 3 1 (.slice Pt HH ct) HH xt) := ⟨_, hxt⟩
                clear hfr hxa hxe hxt hlt HFW HXA HXE HXT
                go_wp2
                go_loopw [15] (fun ci W' => ∃ j : Nat, j ≤ HH ∧ ci = .int .i64 (j : Int) ∧ FrS w p q db S Sq i seed (.slice Pd n cd) vb n wr.heap.size B2 B3 W' ∧ (∃ xa, W'.ownsRow wr.heap.size 39 3 (.slice Pa n ca) n xa) ∧ (∃ xt, W'.ownsRow B4 3 1 (.slice Pt HH ct) HH xt)) (fun ci _ => HH - (intOf ci).toNat)
                case atStart => exact ⟨0, Nat.zero_le _, rfl, HFV.out, HVA.out, HVT.out⟩
                case round =>
                  obtain ⟨l, hl, rfl, hfr, ⟨xa', hxa⟩, ⟨xt', hxt⟩⟩ := hrel
                  rename World => X
                  by_cases hlt : l < HH
                  · as_aux_lemma =>
                    obtain ⟨gt, rfl⟩ : ∃ gt, Pt = some ⟨gt, 0, none⟩ := by
                      rcases hxt.2 with ⟨e, h0⟩ | ⟨g', cap', cur, e, _⟩
                      · omega
                      · injection e with e1 e2 e3
                        exact ⟨g', e1⟩
                    have hxl := hxt.1
                    obtain ⟨u0, hu0⟩ : ∃ u, xt'[l]? = some u := ⟨_, List.getElem?_eq_getElem (by omega)⟩
                    have c0 : X.cell? ⟨gt, l, none⟩ = some u0 := (World.ownsRow.cellAt hxt _ (by omega)).trans hu0
                    have cf : ∀ k, X.frozen? ⟨gt, k, none⟩ = false := fun k => World.ownsRow.frozenAt hxt k
                    have HST : Hid (∀ a, (∃ xa', (X.setCell ⟨gt, l, none⟩ a).ownsRow B4 3 1 (.slice (some ⟨gt, 0, none⟩) HH ct) HH xa') ∧ X.grownBy (X.setCell ⟨gt, l, none⟩ a) (some gt)) := fun a => by
                      have s1 := World.ownsRow.stored hxt l a
                      exact ⟨⟨_, s1.1⟩, s1.2⟩
                    have HGA : Hid (B4 ≤ gt) := HTBk.out gt rfl
                    have HFX : Hid (FrS w p q db S Sq i seed (.slice Pd n cd) vb n wr.heap.size B2 B3 X) := hfr
                    have HXA : Hid _ := hxa
                    have hj0 : (0 : Int) ≤ (l : Int) := by omega
                    have hj1 : (l : Int) < (HH : Int) := by omega
                    have hjw : IntKind.i64.wrap ((l : Int) + 1) = (l : Int) + 1 := by rw [IntKind.wrap_i64] <;> omega
                    have hgl : gt < X.heap.size := lt_of_cell c0
                    clear hfr hxa hxt hxl hu0
                    go_wp2
                    go_roundw
                    case rel =>
                      obtain ⟨q1, q2⟩ := HST.out (.int .i64 (-1))
                      have hz := HZB.out
                      have hga : B4 ≤ gt := HGA.out
                      refine ⟨l + 1, by omega, by go_num, HFX.out.grow q2 (fun r e => ?_), ⟨_, World.ownsRow.kept HXA.out q2 ?_⟩, q1⟩
                      · injection e with e
                        omega
                      · rcases hb : (Value.slice Pa n ca).ownBlock with _ | b
                        · exact Or.inl rfl
                        · refine Or.inr (fun e => ?_)
                          injection e with e
                          have := HAB.out b hb
                          omega
                    case measure => simp [intOf]; omega
                  · have hj1 : ¬ (l : Int) < (HH : Int) := by omega
                    have HFX : Hid (FrS w p q db S Sq i seed (.slice Pd n cd) vb n wr.heap.size B2 B3 X) := hfr
                    have HXA : Hid (∃ xa, X.ownsRow wr.heap.size 39 3 (.slice Pa n ca) n xa) := ⟨_, hxa⟩
                    clear hfr hxa hxt hlt HFV HVA HVT
                    go_wp2
                    go_loopw [9, 16] (fun va ci W' => ∃ (j : Nat) (P' : Option Addr) (c' : Nat), j ≤ 40 ∧ ci = .int .i64 (j : Int) ∧ va = .slice P' (n + j) c' ∧ FrS w p q db S Sq i seed (.slice Pd n cd) vb n wr.heap.size B2 B3 W' ∧ (∃ xs, W'.ownsRow wr.heap.size 39 3 (.slice P' (n + j) c') (n + j) xs) ∧ (∀ r, (Value.slice P' (n + j) c').ownBlock = some r → wr.heap.size ≤ r ∧ (r < B2 ∨ B3 ≤ r))) (fun _ ci _ => 40 - (intOf ci).toNat)
                    case atStart => exact ⟨0, Pa, ca, Nat.zero_le _, rfl, rfl, HFX.out, HXA.out, fun r hr => ⟨(HAB.out r hr).1, Or.inl (HAB.out r hr).2⟩⟩
                    case round =>
                      obtain ⟨t, P5, c5, ht, rfl, rfl, hfr, ⟨xs, hxs⟩, hbk⟩ := hrel
                      rename World => Y
                      obtain ⟨L, hL⟩ : ∃ L, n + t = L := ⟨_, rfl⟩
                      rw [hL] at hxs hbk ⊢
                      have HLE : Hid (n + t = L) := hL
                      have HFY : Hid (FrS w p q db S Sq i seed (.slice Pd n cd) vb n wr.heap.size B2 B3 Y) := hfr
                      have HYS : Hid (Y.ownsRow wr.heap.size 39 3 (.slice P5 L c5) L xs) := hxs
                      have HBK : Hid (∀ r, (Value.slice P5 L c5).ownBlock = some r → wr.heap.size ≤ r ∧ (r < B2 ∨ B3 ≤ r)) := hbk
                      by_cases hlt : t < 40
                      · as_aux_lemma =>
                        have hj1 : (t : Int) < 40 := by omega
                        have hjw : IntKind.i64.wrap ((t : Int) + 1) = (t : Int) + 1 := by rw [IntKind.wrap_i64] <;> omega
                        obtain ⟨iE, hiE, hzE0, hzE, hzE2⟩ := info_of I.infoE
                        have HIE : Hid (Tryd.prog.info? 39 = some iE ∧ iE.zero = some (.agg #[.string ⟨#[]⟩, .int .i64 0, .int .i64 0]) ∧ iE.size = 3 ∧ iE.bytes = 32) := ⟨hiE, hzE0, hzE, hzE2⟩
                        have HL2 : Hid (L ≤ 140) := by show L ≤ 140; omega
                        clear hfr hxs hbk hiE hzE0 hzE hzE2 hL
                        go_upto_region 34 with fail
                        obtain ⟨W2, hW2⟩ : ∃ W2, W2 = Y.alloc (.cells #[.string ⟨#[109, 111, 114, 101]⟩, .int .i64 0, .int .i64 0] 39) := ⟨_, rfl⟩
                        have hb3 : Below Y.heap.size Y W2 := by rw [hW2]; exact (Below.refl _ _).alloc (Nat.le_refl _) _
                        have HO3 : Hid (W2.ownsRow wr.heap.size 39 3 (.slice P5 L c5) L xs) := own_on HYS.out hb3
                        have HF3 : Hid (FrS w p q db S Sq i seed (.slice Pd n cd) vb n wr.heap.size B2 B3 W2) := HFY.out.on hb3
                        have HZ3 : Hid (wr.heap.size ≤ W2.heap.size ∧ B3 ≤ W2.heap.size) := by
                          have h1 := HF3.out.b3
                          have h2 := HZB.out
                          show _ ∧ _
                          omega
                        have HY3 : Hid (wr.heap.size ≤ Y.heap.size ∧ B3 ≤ Y.heap.size) := by
                          have h1 := HFY.out.b3
                          have h2 := HZB.out
                          show _ ∧ _
                          omega
                        have HC3 : Hid (∀ j u, [Value.string ⟨#[109, 111, 114, 101]⟩, .int .i64 0, .int .i64 0][j]? = some u → W2.cell? ((⟨Y.heap.size, 0, none⟩ : Addr).add j) = some u) := by
                          rw [hW2]
                          exact cell_three_new _ _ _ _ _
                        clear hb3
                        go_wp2_with (at_builtin; rw [← hW2]; go_must (refine wpList_append_own_at W2 rfl _ _ 35 rfl wr.heap.size 39 iE (.agg #[.string ⟨#[]⟩, .int .i64 0, .int .i64 0]) 3 32 Tryd.underlying35 HIE.out.1 HIE.out.2.1 HIE.out.2.2.1 HIE.out.2.2.2 rfl (by decide) (.slice P5 L c5) L xs rfl HO3.out ⟨Y.heap.size, 0, none⟩ 1 1 [.string ⟨#[109, 111, 114, 101]⟩, .int .i64 0, .int .i64 0] rfl rfl HC3.out ?b2 ?b3 ?b4 HZ3.out.1 ?_))
                        case b2 => simp [Value.oneCell']
                        case b3 => have : L ≤ 140 := HL2.out; unfold maxLen; omega
                        case b4 => have : L ≤ 140 := HL2.out; omega
                        intro v5 w9 ho5 hg5 _ hat
                        try rw [← hW2] at hg5
                        try rw [← hW2] at hat
                        have HF9 : Hid (FrS w p q db S Sq i seed (.slice Pd n cd) vb n wr.heap.size B2 B3 w9) := HF3.out.grow hg5 (fun r e => by
                          have h1 := HBK.out r e
                          have h2 := HZB.out
                          omega)
                        obtain ⟨P6, c6, hkf⟩ := own_form ho5
                        subst hkf
                        have HO9 : Hid (∃ xs', w9.ownsRow wr.heap.size 39 3 (.slice P6 (L + 1) c6) (L + 1) xs') := ⟨_, ho5⟩
                        have HB9 : Hid (∀ r, (Value.slice P6 (L + 1) c6).ownBlock = some r → wr.heap.size ≤ r ∧ (r < B2 ∨ B3 ≤ r)) := fun r hr => by
                          rcases hat with h | h
                          · exact HBK.out r (h ▸ hr)
                          · rw [hr] at h
                            have h2 := Option.some.inj h
                            have h3 := HY3.out
                            omega
                        clear ho5 hg5 hat hW2
                        go_wp2
                        go_roundw
                        case rel =>
                          have hl : n + t = L := HLE.out
                          subst hl
                          exact ⟨t + 1, P6, c6, by omega, by go_num, rfl, HF9.out, HO9.out, HB9.out⟩
                        case measure => simp [intOf]; omega
                      · have hj1 : ¬ (t : Int) < 40 := by omega
                        have hL40 : (40 : Int) ≤ (L : Int) := by omega
                        clear hfr hxs hbk hL HYS HBK hlt HFX HXA
                        have hdr : Y.heap[db]? = some (.cells #[.int .i64 seed, .slice Pd n cd] 51) := HFY.out.dr
                        obtain ⟨y0, y1, yf⟩ := cells2 hdr
                        have HS2 : Hid (∀ r base W, Below Y.heap.size Y W → W.ownsRow base 39 3 r n (flatV (ens S.T)) → Calls Tryd.prog 22 #[r, .slice Pd n cd] W fun e w' => e = .returned (.bool true) ∧ Below W.heap.size W w') := fun r base W hW ho =>
                          same_yes _ base r (.slice Pd n cd) (ens S.T) (by rw [ens_len, HNL.out]; omega) W (by rw [ens_len, HNL.out]; exact ho) (HFY.out.on hW).er
                        have HOB : Hid (∀ W, Below Y.heap.size Y W → W.ownsRow B2 39 3 vb n (flatV (ens S.T))) := fun W hW => (HFY.out.on hW).bl
                        have HP1 : Hid (∀ W, Below Y.heap.size Y W → Calls Tryd.prog 12 #[.pointer (some ⟨p, 0, none⟩), .int .i64 0, .int .i64 1073741824, .bool false] W fun e w' => ∃ r, e = .returned r ∧ w'.ownsRow W.heap.size 39 3 r n (flatV (ens S.T)) ∧ Below W.heap.size W w') := fun W hW => by
                          have := I.Slice_all p S i W (HFY.out.on hW).bp (by omega)
                          rw [HNL.out] at this
                          exact this
                        have HTD : Hid (talL S = cl ((ens S.T).map fun e => hgM S.seed e.1) (mxH ((ens S.T).map fun e => hgM S.seed e.1))) := tal_doc HFY.out.bp
                        have HPT : Hid (∀ W, Below Y.heap.size Y W → Calls Tryd.prog 17 #[.pointer (some ⟨p, 0, none⟩)] W fun e w' => ∃ r, e = .returned r ∧ IRow w' r (talL S) ∧ Below W.heap.size W w') := fun W hW => (Tall_any p S i W (HFY.out.on hW).bp).mono (fun e w' ⟨r, h1, h2, h3⟩ => ⟨r, h1, ⟨W.heap.size, by
                          have e1 : (talL S).length = S.H := by unfold talL; simp
                          rw [e1]; exact h2⟩, h3⟩)
                        have HRT : Hid (∀ W, Below Y.heap.size Y W → Calls Tryd.prog 23 #[bval seed (.slice Pd n cd)] W fun e w' => ∃ r, e = .returned r ∧ IRow w' r (talL S) ∧ Below W.heap.size W w') := fun W hW => by
                          have := (rTall_any _ S.seed (.slice Pd n cd) (ens S.T) (by rw [ens_len, HNL.out]; omega) (ens_sz HFY.out.bp) W (HFY.out.on hW).er).mono (R' := fun e w' => ∃ r, e = .returned r ∧ IRow w' r (talL S) ∧ Below W.heap.size W w') (fun e w' ⟨r, h1, h2, h3⟩ => ⟨r, h1, ⟨W.heap.size, by rw [HTD.out]; exact h2⟩, h3⟩)
                          rw [HSD.out] at this
                          exact this
                        have HSI : Hid (∀ u1 u2 W, IRow W u1 (talL S) → IRow W u2 (talL S) → Calls Tryd.prog 16 #[u1, u2] W fun e w' => e = .returned (.bool true) ∧ Below W.heap.size W w') := fun u1 u2 W h1 h2 => by
                          have hh := HFY.out.bp.h24
                          have := sameInts_any u1 u2 (talL S) (talL S) (by unfold talL; simp; omega) W h1 h2
                          simpa using this
                        have HLQ : Hid (∀ W, Below Y.heap.size Y W → Calls Tryd.prog 13 #[.pointer (some ⟨q, 0, none⟩)] W fun e w' => e = .returned (.int .i64 0) ∧ w' = W) := fun W hW => by
                          have := I.Len_any q Sq 0 W (HFY.out.on hW).bq
                          rw [HI1.out.2.1] at this
                          exact this
                        have HSU : Hid (∀ W, Below Y.heap.size Y W → Calls Tryd.prog 18 #[] W fun e w' => e = .returned (.bool true) ∧ Below W.heap.size W w') := fun W hW => _root_.Go.Proofs.YtgbplghokciimaaDoor.S.sure_any W (HT.out.on (HFY.out.on hW).bel)
                        have HBY : Hid (∀ W, Below Y.heap.size Y W → Below w.heap.size w W) := fun W hW => (HFY.out.on hW).bel
                        clear hdr yf
                        go_upto_region 35 with fail
                        have hd : Below Y.heap.size Y Y.drew := (Below.refl _ Y).drew
                        have HKS : Hid (∀ w' : World, Below Y.heap.size Y w' → w'.cell? ⟨db, 0, none⟩ = some (.int .i64 seed) ∧ w'.cell? ⟨db, 1, none⟩ = some (.slice Pd n cd)) := fun w' hw => And.intro (cell_on y0 hw) (cell_on y1 hw)
                        have hSA := And.intro y0 y1
                        go_region_held3 (fun w' : World => w'.cell? ⟨db, 0, none⟩ = some (.int .i64 seed) ∧ w'.cell? ⟨db, 1, none⟩ = some (.slice Pd n cd))
                          (first | exact hSA | exact HKS.out _ hw1 | exact HKS.out _ hw2 | exact HKS.out _ hw3 | exact HKS.out _ hw4 | exact HKS.out _ hw5 | exact HKS.out _ hw6 | exact HKS.out _ hw7)
                          (first | (go_at_call 22; refine (show Calls _ _ _ _ _ from HS2.out r2 _ a2 hw2 hr2).mono ?_; rintro e a3 ⟨rfl, hb3⟩; have hw3 : Below Y.heap.size Y a3 := bel_to hw2 hb3 (Nat.le_refl _)) | (go_at_call 22; refine (show Calls _ _ _ _ _ from HS2.out vb _ Y.drew hd (HOB.out _ hd)).mono ?_; rintro e a1 ⟨rfl, hb1⟩; have hw1 : Below Y.heap.size Y a1 := bel_to hd hb1 (Nat.le_refl _)) | (go_at_call 12; refine (show Calls _ _ _ _ _ from HP1.out a1 hw1).mono ?_; rintro e a2 ⟨r2, rfl, hr2, hb2⟩; have hw2 : Below Y.heap.size Y a2 := bel_to hw1 hb2 (Nat.le_refl _)) | (go_at_call 17; refine (show Calls _ _ _ _ _ from HPT.out a3 hw3).mono ?_; rintro e a4 ⟨u1, rfl, hu1, hb4⟩; have hw4 : Below Y.heap.size Y a4 := bel_to hw3 hb4 (Nat.le_refl _)) | (go_at_call 23; refine (show Calls _ _ _ _ _ from HRT.out a4 hw4).mono ?_; rintro e a5 ⟨u2, rfl, hu2, hb5⟩; have hw5 : Below Y.heap.size Y a5 := bel_to hw4 hb5 (Nat.le_refl _); have hu1b := hu1.on hb5) | (go_at_call 16; refine (show Calls _ _ _ _ _ from HSI.out u1 u2 a5 hu1b hu2).mono ?_; rintro e a6 ⟨rfl, hb6⟩; have hw6 : Below Y.heap.size Y a6 := bel_to hw5 hb6 (Nat.le_refl _)) | (go_at_call 13; refine (show Calls _ _ _ _ _ from HLQ.out a6 hw6).mono ?_; rintro e a7 ⟨rfl, hb7⟩; have hb7' := hb7.symm; subst hb7') | (go_at_call 18; refine (show Calls _ _ _ _ _ from HSU.out a6 hw6).mono ?_; rintro e a8 ⟨rfl, hb8⟩; have hw7 : Below Y.heap.size Y a8 := bel_to hw6 hb8 (Nat.le_refl _)))
                        go_wp2
                        go_returns
                        exact ⟨by first | rfl | (simp; done), HBY.out _ hw7⟩
      · as_aux_lemma =>
        have hi1 : ¬ (i : Int) < (len : Int) := by omega
        go_upto_region 13 with fail
        clear hi1 cc1 hlt hl
        go_wp2_with fail
        refine (show Calls _ _ _ _ _ from HSL.out wr (Below.refl _ _)).mono ?_
        rintro e w4 ⟨va, rfl, howa, hb4⟩
        have HOA : Hid (w4.ownsRow wr.heap.size 39 3 va n (flatV (ens S.T))) := howa
        have HB4 : Hid (Below wr.heap.size wr w4) := hb4
        clear howa hb4
        go_wp2_with fail
        refine (show Calls _ _ _ _ _ from HSL.out w4 HB4.out).mono ?_
        rintro e w5 ⟨vb, rfl, howb, hb5⟩
        have HB5 : Hid (Below w4.heap.size w4 w5) := hb5
        have HOB : Hid (w5.ownsRow w4.heap.size 39 3 vb n (flatV (ens S.T))) := howb
        clear howb hb5
        go_wp2_with fail
        refine (show Calls _ _ _ _ _ from HBS.out w5 (bel_to HB4.out HB5.out (Nat.le_refl _))).mono ?_
        rintro e w6 ⟨ve, m, xe, rfl, howe, hm6, hb6⟩
        have HB6 : Hid (Below w5.heap.size w5 w6) := hb6
        have HOE : Hid (w6.ownsRow w5.heap.size 39 3 ve m xe) := howe
        have HM6 : Hid (m ≤ 1000000) := hm6
        clear howe hb6 hm6
        go_wp2_with fail
        refine (show Calls _ _ _ _ _ from HTA.out w6 (bel_to (bel_to HB4.out HB5.out (Nat.le_refl _)) HB6.out (Nat.le_refl _))).mono ?_
        rintro e w7 ⟨vt, rfl, howt, hb7⟩
        have HB7 : Hid (Below w6.heap.size w6 w7) := hb7
        have HOT : Hid (∃ xt, w7.ownsRow w6.heap.size 3 1 vt S.H xt) := ⟨_, howt⟩
        clear howt hb7
        have hwr7 : Below wr.heap.size wr w7 := bel_to (bel_to (bel_to HB4.out HB5.out (Nat.le_refl _)) HB6.out (Nat.le_refl _)) HB7.out (Nat.le_refl _)
        have HW7 : Hid (Below wr.heap.size wr w7) := hwr7
        have h57 : Below w5.heap.size w5 w7 := bel_to HB6.out HB7.out (Nat.le_refl _)
        have h47 : Below w4.heap.size w4 w7 := bel_to HB5.out h57 (Nat.le_refl _)
        obtain ⟨B2, hB2⟩ : ∃ B2, w4.heap.size = B2 := ⟨_, rfl⟩
        obtain ⟨B3, hB3⟩ : ∃ B3, w5.heap.size = B3 := ⟨_, rfl⟩
        obtain ⟨B4, hB4⟩ : ∃ B4, w6.heap.size = B4 := ⟨_, rfl⟩
        have HFR7 : Hid (FrS w p q db S Sq i seed (.slice Pd n cd) vb n wr.heap.size B2 B3 w7) := by
          refine ⟨HBD.out.below hwr7, HBQ.out.below hwr7, HER.out.lt.on hwr7, keep_row HDR.out hwr7, ?_, fun r hr => ?_, HBD.out.lts, HBQ.out.lts, row_lt HDR.out, bel_to HBw.out hwr7 (Nat.le_refl _), by rw [← hB3]; exact h57.size⟩
          · rw [← hB2]; exact own_on HOB.out h57
          · rw [← hB3]; exact own_lt HOB.out r hr
        have HOA7 : Hid (∃ xa, w7.ownsRow wr.heap.size 39 3 va n xa) := ⟨_, own_on HOA.out h47⟩
        have HOE7 : Hid (∃ xe, w7.ownsRow B3 39 3 ve m xe) := ⟨_, by rw [← hB3]; exact own_on HOE.out HB7.out⟩
        have HOT7 : Hid (∃ xt, w7.ownsRow B4 3 1 vt S.H xt) := by rw [← hB4]; exact HOT.out
        have HAB : Hid (∀ r, va.ownBlock = some r → wr.heap.size ≤ r ∧ r < B2) := fun r hr => ⟨own_ge HOA.out r hr, by rw [← hB2]; exact own_lt HOA.out r hr⟩
        have HEB : Hid (∀ r, ve.ownBlock = some r → B3 ≤ r ∧ r < B4) := fun r hr => ⟨by rw [← hB3]; exact own_ge HOE.out r hr, by rw [← hB4]; exact own_lt HOE.out r hr⟩
        have HTBk : Hid (∀ r, vt.ownBlock = some r → B4 ≤ r) := fun r hr => by obtain ⟨xt, hx⟩ := HOT7.out; exact own_ge hx r hr
        have HZB : Hid (w.heap.size ≤ wr.heap.size ∧ wr.heap.size ≤ B2 ∧ B2 ≤ B3 ∧ B3 ≤ B4) := ⟨HBw.out.size, by rw [← hB2]; exact HB4.out.size, by rw [← hB2, ← hB3]; exact HB5.out.size, by rw [← hB3, ← hB4]; exact HB6.out.size⟩
        have HSA : Hid _ := same_yes _ _ va (.slice Pd n cd) (ens S.T) (by rw [ens_len, HNL.out]; omega) w7 (by rw [ens_len, HNL.out]; exact own_on HOA.out h47) (HER.out.on hwr7)
        have f1 := cell_on e1 hwr7
        clear hwr7 h57 h47 hB2 hB3 hB4 HOA HOB HOE HOT HB4 HB5 HB6 HB7 e0 e1
        go_wp2_with fail
        refine (show Calls _ _ _ _ _ from HSA.out).mono ?_
        rintro e w8 ⟨rfl, hb8⟩
        have HFR8 : Hid (FrS w p q db S Sq i seed (.slice Pd n cd) vb n wr.heap.size B2 B3 w8) := HFR7.out.on hb8
        have HOA8 : Hid (∃ xa, w8.ownsRow wr.heap.size 39 3 va n xa) := HOA7.out.imp (fun _ h => own_on h hb8)
        have HOE8 : Hid (∃ xe, w8.ownsRow B3 39 3 ve m xe) := HOE7.out.imp (fun _ h => own_on h hb8)
        have HOT8 : Hid (∃ xt, w8.ownsRow B4 3 1 vt S.H xt) := HOT7.out.imp (fun _ h => own_on h hb8)
        have h24 : S.H ≤ 24 := HBD.out.h24
        clear hb8 f1 HFR7 HOA7 HOE7 HOT7
        obtain ⟨Pa, ca, hva⟩ := own_form HOA8.out.choose_spec
        subst hva
        obtain ⟨Pe, ce, hve⟩ := own_form HOE8.out.choose_spec
        subst hve
        obtain ⟨Pt, ct, hvt⟩ := own_form HOT8.out.choose_spec
        subst hvt
        obtain ⟨HH, hHH⟩ : ∃ HH, S.H = HH := ⟨_, rfl⟩
        rw [hHH] at HOT8 HTBk h24 ⊢
        have HHE : Hid (S.H = HH) := hHH
        clear hHH
        go_wp2
        go_loopw [13] (fun ci W => ∃ j : Nat, j ≤ n ∧ ci = .int .i64 (j : Int) ∧ FrS w p q db S Sq i seed (.slice Pd n cd) vb n wr.heap.size B2 B3 W ∧ (∃ xa, W.ownsRow wr.heap.size 39 3 (.slice Pa n ca) n xa) ∧ (∃ xe, W.ownsRow B3 39 3 (.slice Pe m ce) m xe) ∧ (∃ xt, W.ownsRow B4 3 1 (.slice Pt HH ct) HH xt)) (fun ci _ => n - (intOf ci).toNat)
        case atStart => exact ⟨0, Nat.zero_le _, rfl, HFR8.out, HOA8.out, HOE8.out, HOT8.out⟩
        case round =>
          obtain ⟨j, hj, rfl, hfr, ⟨xa, hxa⟩, ⟨xe', hxe⟩, ⟨xt', hxt⟩⟩ := hrel
          rename World => W
          by_cases hlt : j < n
          · as_aux_lemma =>
            obtain ⟨ga, rfl⟩ : ∃ ga, Pa = some ⟨ga, 0, none⟩ := by
              rcases hxa.2 with ⟨e, h0⟩ | ⟨g', cap', cur, e, _⟩
              · omega
              · injection e with e1 e2 e3
                exact ⟨g', e1⟩
            have hxl := hxa.1
            obtain ⟨u0, hu0⟩ : ∃ u, xa[j * 3]? = some u := ⟨_, List.getElem?_eq_getElem (by omega)⟩
            obtain ⟨u1, hu1⟩ : ∃ u, xa[j * 3 + 1]? = some u := ⟨_, List.getElem?_eq_getElem (by omega)⟩
            obtain ⟨u2, hu2⟩ : ∃ u, xa[j * 3 + 2]? = some u := ⟨_, List.getElem?_eq_getElem (by omega)⟩
            have c0 : W.cell? ⟨ga, j * 3, none⟩ = some u0 := (World.ownsRow.cellAt hxa _ (by omega)).trans hu0
            have c1 : W.cell? ⟨ga, j * 3 + 1, none⟩ = some u1 := (World.ownsRow.cellAt hxa _ (by omega)).trans hu1
            have c2 : W.cell? ⟨ga, j * 3 + 2, none⟩ = some u2 := (World.ownsRow.cellAt hxa _ (by omega)).trans hu2
            have cf : ∀ k, W.frozen? ⟨ga, k, none⟩ = false := fun k => World.ownsRow.frozenAt hxa k
            have HST : Hid (∀ a b c, (∃ xa', (((W.setCell ⟨ga, j * 3, none⟩ a).setCell ⟨ga, j * 3 + 1, none⟩ b).setCell ⟨ga, j * 3 + 2, none⟩ c).ownsRow wr.heap.size 39 3 (.slice (some ⟨ga, 0, none⟩) n ca) n xa') ∧ W.grownBy (((W.setCell ⟨ga, j * 3, none⟩ a).setCell ⟨ga, j * 3 + 1, none⟩ b).setCell ⟨ga, j * 3 + 2, none⟩ c) (some ga)) := fun a b c => by
              have s1 := World.ownsRow.stored hxa (j * 3) a
              have s2 := World.ownsRow.stored s1.1 (j * 3 + 1) b
              have s3 := World.ownsRow.stored s2.1 (j * 3 + 2) c
              exact ⟨⟨_, s3.1⟩, gb_trans (gb_trans s1.2 s2.2) s3.2⟩
            have HGA : Hid (wr.heap.size ≤ ga ∧ ga < B2) := HAB.out ga rfl
            have HFW : Hid (FrS w p q db S Sq i seed (.slice Pd n cd) vb n wr.heap.size B2 B3 W) := hfr
            have HXE : Hid _ := hxe
            have HXT : Hid _ := hxt
            have hj0 : (0 : Int) ≤ (j : Int) := by omega
            have hj1 : (j : Int) < (n : Int) := by omega
            have hjw : IntKind.i64.wrap ((j : Int) + 1) = (j : Int) + 1 := by rw [IntKind.wrap_i64] <;> omega
            have hgl : ga < W.heap.size := lt_of_cell c0
            clear hfr hxa hxe hxt hxl hu0 hu1 hu2
            go_wp2
            go_roundw
            case rel =>
              obtain ⟨q1, q2⟩ := HST.out (.string ⟨#[115, 112, 111, 105, 108, 116]⟩) (.int .i64 0) (.int .i64 0)
              have hz := HZB.out
              have hga := HGA.out
              refine ⟨j + 1, by omega, by go_num, HFW.out.grow q2 (fun r e => ?_), q1, ⟨_, World.ownsRow.kept HXE.out q2 ?_⟩, ⟨_, World.ownsRow.kept HXT.out q2 ?_⟩⟩
              · injection e with e
                omega
              · rcases hb : (Value.slice Pe m ce).ownBlock with _ | b
                · exact Or.inl rfl
                · refine Or.inr (fun e => ?_)
                  injection e with e
                  have := HEB.out b hb
                  omega
              · rcases hb : (Value.slice Pt HH ct).ownBlock with _ | b
                · exact Or.inl rfl
                · refine Or.inr (fun e => ?_)
                  injection e with e
                  have := HTBk.out b hb
                  omega
            case measure => simp [intOf]; omega
          · have hj1 : ¬ (j : Int) < (n : Int) := by omega
            have HFW : Hid (FrS w p q db S Sq i seed (.slice Pd n cd) vb n wr.heap.size B2 B3 W) := hfr
            have HXA : Hid (∃ xa, W.ownsRow wr.heap.size 39 3 (.slice Pa n ca) n xa) := ⟨_, hxa⟩
            have HXE : Hid (∃ xe, W.ownsRow B3 39 3 (.slice Pe m ce) m xe) := ⟨_, hxe⟩
            have HXT : Hid (∃ xt, W.ownsRow B4 3 1 (.slice Pt HH ct) HH xt) := ⟨_, hxt⟩
            clear hfr hxa hxe hxt HFR8 HOA8 HOE8 HOT8 hlt
            go_wp2
            go_loopw [14] (fun ci W' => ∃ j : Nat, j ≤ m ∧ ci = .int .i64 (j : Int) ∧ FrS w p q db S Sq i seed (.slice Pd n cd) vb n wr.heap.size B2 B3 W' ∧ (∃ xa, W'.ownsRow wr.heap.size 39 3 (.slice Pa n ca) n xa) ∧ (∃ xe, W'.ownsRow B3 39 3 (.slice Pe m ce) m xe) ∧ (∃ xt, W'.ownsRow B4 3 1 (.slice Pt HH ct) HH xt)) (fun ci _ => m - (intOf ci).toNat)
            case atStart => exact ⟨0, Nat.zero_le _, rfl, HFW.out, HXA.out, HXE.out, HXT.out⟩
            case round =>
              obtain ⟨k, hk, rfl, hfr, ⟨xa', hxa⟩, ⟨xe', hxe⟩, ⟨xt', hxt⟩⟩ := hrel
              rename World => V
              have hm6 := HM6.out
              by_cases hlt : k < m
              · as_aux_lemma =>
                obtain ⟨ge, rfl⟩ : ∃ ge, Pe = some ⟨ge, 0, none⟩ := by
                  rcases hxe.2 with ⟨e, h0⟩ | ⟨g', cap', cur, e, _⟩
                  · omega
                  · injection e with e1 e2 e3
                    exact ⟨g', e1⟩
                have hxl := hxe.1
                obtain ⟨u0, hu0⟩ : ∃ u, xe'[k * 3]? = some u := ⟨_, List.getElem?_eq_getElem (by omega)⟩
                obtain ⟨u1, hu1⟩ : ∃ u, xe'[k * 3 + 1]? = some u := ⟨_, List.getElem?_eq_getElem (by omega)⟩
                obtain ⟨u2, hu2⟩ : ∃ u, xe'[k * 3 + 2]? = some u := ⟨_, List.getElem?_eq_getElem (by omega)⟩
                have c0 : V.cell? ⟨ge, k * 3, none⟩ = some u0 := (World.ownsRow.cellAt hxe _ (by omega)).trans hu0
                have c1 : V.cell? ⟨ge, k * 3 + 1, none⟩ = some u1 := (World.ownsRow.cellAt hxe _ (by omega)).trans hu1
                have c2 : V.cell? ⟨ge, k * 3 + 2, none⟩ = some u2 := (World.ownsRow.cellAt hxe _ (by omega)).trans hu2
                have cf : ∀ k, V.frozen? ⟨ge, k, none⟩ = false := fun k => World.ownsRow.frozenAt hxe k
                have HST : Hid (∀ a b c, (∃ xa', (((V.setCell ⟨ge, k * 3, none⟩ a).setCell ⟨ge, k * 3 + 1, none⟩ b).setCell ⟨ge, k * 3 + 2, none⟩ c).ownsRow B3 39 3 (.slice (some ⟨ge, 0, none⟩) m ce) m xa') ∧ V.grownBy (((V.setCell ⟨ge, k * 3, none⟩ a).setCell ⟨ge, k * 3 + 1, none⟩ b).setCell ⟨ge, k * 3 + 2, none⟩ c) (some ge)) := fun a b c => by
                  have s1 := World.ownsRow.stored hxe (k * 3) a
                  have s2 := World.ownsRow.stored s1.1 (k * 3 + 1) b
                  have s3 := World.ownsRow.stored s2.1 (k * 3 + 2) c
                  exact ⟨⟨_, s3.1⟩, gb_trans (gb_trans s1.2 s2.2) s3.2⟩
                have HGA : Hid (B3 ≤ ge ∧ ge < B4) := HEB.out ge rfl
                have HFV : Hid (FrS w p q db S Sq i seed (.slice Pd n cd) vb n wr.heap.size B2 B3 V) := hfr
                have HVA : Hid _ := hxa
                have HVT : Hid _ := hxt
                have hj0 : (0 : Int) ≤ (k : Int) := by omega
                have hj1 : (k : Int) < (m : Int) := by omega
                have hjw : IntKind.i64.wrap ((k : Int) + 1) = (k : Int) + 1 := by rw [IntKind.wrap_i64] <;> omega
                have hgl : ge < V.heap.size := lt_of_cell c0
                clear hfr hxa hxe hxt hxl hu0 hu1 hu2
                go_wp2
                go_roundw
                case rel =>
                  obtain ⟨q1, q2⟩ := HST.out (.string ⟨#[119, 111, 114, 110]⟩) (.int .i64 0) (.int .i64 0)
                  have hz := HZB.out
                  have hga := HGA.out
                  refine ⟨k + 1, by omega, by go_num, HFV.out.grow q2 (fun r e => ?_), ⟨_, World.ownsRow.kept HVA.out q2 ?_⟩, q1, ⟨_, World.ownsRow.kept HVT.out q2 ?_⟩⟩
                  · injection e with e
                    omega
                  · rcases hb : (Value.slice Pa n ca).ownBlock with _ | b
                    · exact Or.inl rfl
                    · refine Or.inr (fun e => ?_)
                      injection e with e
                      have := HAB.out b hb
                      omega
                  · rcases hb : (Value.slice Pt HH ct).ownBlock with _ | b
                    · exact Or.inl rfl
                    · refine Or.inr (fun e => ?_)
                      injection e with e
                      have := HTBk.out b hb
                      omega
                case measure => simp [intOf]; omega
              · have hj1 : ¬ (k : Int) < (m : Int) := by omega
                have HFV : Hid (FrS w p q db S Sq i seed (.slice Pd n cd) vb n wr.heap.size B2 B3 V) := hfr
                have HVA : Hid (∃ xa, V.ownsRow wr.heap.size 39 3 (.slice Pa n ca) n xa) := ⟨_, hxa⟩
                have HVT : Hid (∃ xt, V.ownsRow B4 3 1 (.slice Pt HH ct) HH xt) := ⟨_, hxt⟩
                clear hfr hxa hxe hxt hlt HFW HXA HXE HXT
                go_wp2
                go_loopw [15] (fun ci W' => ∃ j : Nat, j ≤ HH ∧ ci = .int .i64 (j : Int) ∧ FrS w p q db S Sq i seed (.slice Pd n cd) vb n wr.heap.size B2 B3 W' ∧ (∃ xa, W'.ownsRow wr.heap.size 39 3 (.slice Pa n ca) n xa) ∧ (∃ xt, W'.ownsRow B4 3 1 (.slice Pt HH ct) HH xt)) (fun ci _ => HH - (intOf ci).toNat)
                case atStart => exact ⟨0, Nat.zero_le _, rfl, HFV.out, HVA.out, HVT.out⟩
                case round =>
                  obtain ⟨l, hl, rfl, hfr, ⟨xa', hxa⟩, ⟨xt', hxt⟩⟩ := hrel
                  rename World => X
                  by_cases hlt : l < HH
                  · as_aux_lemma =>
                    obtain ⟨gt, rfl⟩ : ∃ gt, Pt = some ⟨gt, 0, none⟩ := by
                      rcases hxt.2 with ⟨e, h0⟩ | ⟨g', cap', cur, e, _⟩
                      · omega
                      · injection e with e1 e2 e3
                        exact ⟨g', e1⟩
                    have hxl := hxt.1
                    obtain ⟨u0, hu0⟩ : ∃ u, xt'[l]? = some u := ⟨_, List.getElem?_eq_getElem (by omega)⟩
                    have c0 : X.cell? ⟨gt, l, none⟩ = some u0 := (World.ownsRow.cellAt hxt _ (by omega)).trans hu0
                    have cf : ∀ k, X.frozen? ⟨gt, k, none⟩ = false := fun k => World.ownsRow.frozenAt hxt k
                    have HST : Hid (∀ a, (∃ xa', (X.setCell ⟨gt, l, none⟩ a).ownsRow B4 3 1 (.slice (some ⟨gt, 0, none⟩) HH ct) HH xa') ∧ X.grownBy (X.setCell ⟨gt, l, none⟩ a) (some gt)) := fun a => by
                      have s1 := World.ownsRow.stored hxt l a
                      exact ⟨⟨_, s1.1⟩, s1.2⟩
                    have HGA : Hid (B4 ≤ gt) := HTBk.out gt rfl
                    have HFX : Hid (FrS w p q db S Sq i seed (.slice Pd n cd) vb n wr.heap.size B2 B3 X) := hfr
                    have HXA : Hid _ := hxa
                    have hj0 : (0 : Int) ≤ (l : Int) := by omega
                    have hj1 : (l : Int) < (HH : Int) := by omega
                    have hjw : IntKind.i64.wrap ((l : Int) + 1) = (l : Int) + 1 := by rw [IntKind.wrap_i64] <;> omega
                    have hgl : gt < X.heap.size := lt_of_cell c0
                    clear hfr hxa hxt hxl hu0
                    go_wp2
                    go_roundw
                    case rel =>
                      obtain ⟨q1, q2⟩ := HST.out (.int .i64 (-1))
                      have hz := HZB.out
                      have hga : B4 ≤ gt := HGA.out
                      refine ⟨l + 1, by omega, by go_num, HFX.out.grow q2 (fun r e => ?_), ⟨_, World.ownsRow.kept HXA.out q2 ?_⟩, q1⟩
                      · injection e with e
                        omega
                      · rcases hb : (Value.slice Pa n ca).ownBlock with _ | b
                        · exact Or.inl rfl
                        · refine Or.inr (fun e => ?_)
                          injection e with e
                          have := HAB.out b hb
                          omega
                    case measure => simp [intOf]; omega
                  · have hj1 : ¬ (l : Int) < (HH : Int) := by omega
                    have HFX : Hid (FrS w p q db S Sq i seed (.slice Pd n cd) vb n wr.heap.size B2 B3 X) := hfr
                    have HXA : Hid (∃ xa, X.ownsRow wr.heap.size 39 3 (.slice Pa n ca) n xa) := ⟨_, hxa⟩
                    clear hfr hxa hxt hlt HFV HVA HVT
                    go_wp2
                    go_loopw [9, 16] (fun va ci W' => ∃ (j : Nat) (P' : Option Addr) (c' : Nat), j ≤ 40 ∧ ci = .int .i64 (j : Int) ∧ va = .slice P' (n + j) c' ∧ FrS w p q db S Sq i seed (.slice Pd n cd) vb n wr.heap.size B2 B3 W' ∧ (∃ xs, W'.ownsRow wr.heap.size 39 3 (.slice P' (n + j) c') (n + j) xs) ∧ (∀ r, (Value.slice P' (n + j) c').ownBlock = some r → wr.heap.size ≤ r ∧ (r < B2 ∨ B3 ≤ r))) (fun _ ci _ => 40 - (intOf ci).toNat)
                    case atStart => exact ⟨0, Pa, ca, Nat.zero_le _, rfl, rfl, HFX.out, HXA.out, fun r hr => ⟨(HAB.out r hr).1, Or.inl (HAB.out r hr).2⟩⟩
                    case round =>
                      obtain ⟨t, P5, c5, ht, rfl, rfl, hfr, ⟨xs, hxs⟩, hbk⟩ := hrel
                      rename World => Y
                      obtain ⟨L, hL⟩ : ∃ L, n + t = L := ⟨_, rfl⟩
                      rw [hL] at hxs hbk ⊢
                      have HLE : Hid (n + t = L) := hL
                      have HFY : Hid (FrS w p q db S Sq i seed (.slice Pd n cd) vb n wr.heap.size B2 B3 Y) := hfr
                      have HYS : Hid (Y.ownsRow wr.heap.size 39 3 (.slice P5 L c5) L xs) := hxs
                      have HBK : Hid (∀ r, (Value.slice P5 L c5).ownBlock = some r → wr.heap.size ≤ r ∧ (r < B2 ∨ B3 ≤ r)) := hbk
                      by_cases hlt : t < 40
                      · as_aux_lemma =>
                        have hj1 : (t : Int) < 40 := by omega
                        have hjw : IntKind.i64.wrap ((t : Int) + 1) = (t : Int) + 1 := by rw [IntKind.wrap_i64] <;> omega
                        obtain ⟨iE, hiE, hzE0, hzE, hzE2⟩ := info_of I.infoE
                        have HIE : Hid (Tryd.prog.info? 39 = some iE ∧ iE.zero = some (.agg #[.string ⟨#[]⟩, .int .i64 0, .int .i64 0]) ∧ iE.size = 3 ∧ iE.bytes = 32) := ⟨hiE, hzE0, hzE, hzE2⟩
                        have HL2 : Hid (L ≤ 140) := by show L ≤ 140; omega
                        clear hfr hxs hbk hiE hzE0 hzE hzE2 hL
                        go_upto_region 34 with fail
                        obtain ⟨W2, hW2⟩ : ∃ W2, W2 = Y.alloc (.cells #[.string ⟨#[109, 111, 114, 101]⟩, .int .i64 0, .int .i64 0] 39) := ⟨_, rfl⟩
                        have hb3 : Below Y.heap.size Y W2 := by rw [hW2]; exact (Below.refl _ _).alloc (Nat.le_refl _) _
                        have HO3 : Hid (W2.ownsRow wr.heap.size 39 3 (.slice P5 L c5) L xs) := own_on HYS.out hb3
                        have HF3 : Hid (FrS w p q db S Sq i seed (.slice Pd n cd) vb n wr.heap.size B2 B3 W2) := HFY.out.on hb3
                        have HZ3 : Hid (wr.heap.size ≤ W2.heap.size ∧ B3 ≤ W2.heap.size) := by
                          have h1 := HF3.out.b3
                          have h2 := HZB.out
                          show _ ∧ _
                          omega
                        have HY3 : Hid (wr.heap.size ≤ Y.heap.size ∧ B3 ≤ Y.heap.size) := by
                          have h1 := HFY.out.b3
                          have h2 := HZB.out
                          show _ ∧ _
                          omega
                        have HC3 : Hid (∀ j u, [Value.string ⟨#[109, 111, 114, 101]⟩, .int .i64 0, .int .i64 0][j]? = some u → W2.cell? ((⟨Y.heap.size, 0, none⟩ : Addr).add j) = some u) := by
                          rw [hW2]
                          exact cell_three_new _ _ _ _ _
                        clear hb3
                        go_wp2_with (at_builtin; rw [← hW2]; go_must (refine wpList_append_own_at W2 rfl _ _ 35 rfl wr.heap.size 39 iE (.agg #[.string ⟨#[]⟩, .int .i64 0, .int .i64 0]) 3 32 Tryd.underlying35 HIE.out.1 HIE.out.2.1 HIE.out.2.2.1 HIE.out.2.2.2 rfl (by decide) (.slice P5 L c5) L xs rfl HO3.out ⟨Y.heap.size, 0, none⟩ 1 1 [.string ⟨#[109, 111, 114, 101]⟩, .int .i64 0, .int .i64 0] rfl rfl HC3.out ?b2 ?b3 ?b4 HZ3.out.1 ?_))
                        case b2 => simp [Value.oneCell']
                        case b3 => have : L ≤ 140 := HL2.out; unfold maxLen; omega
                        case b4 => have : L ≤ 140 := HL2.out; omega
                        intro v5 w9 ho5 hg5 _ hat
                        try rw [← hW2] at hg5
                        try rw [← hW2] at hat
                        have HF9 : Hid (FrS w p q db S Sq i seed (.slice Pd n cd) vb n wr.heap.size B2 B3 w9) := HF3.out.grow hg5 (fun r e => by
                          have h1 := HBK.out r e
                          have h2 := HZB.out
                          omega)
                        obtain ⟨P6, c6, hkf⟩ := own_form ho5
                        subst hkf
                        have HO9 : Hid (∃ xs', w9.ownsRow wr.heap.size 39 3 (.slice P6 (L + 1) c6) (L + 1) xs') := ⟨_, ho5⟩
                        have HB9 : Hid (∀ r, (Value.slice P6 (L + 1) c6).ownBlock = some r → wr.heap.size ≤ r ∧ (r < B2 ∨ B3 ≤ r)) := fun r hr => by
                          rcases hat with h | h
                          · exact HBK.out r (h ▸ hr)
                          · rw [hr] at h
                            have h2 := Option.some.inj h
                            have h3 := HY3.out
                            omega
                        clear ho5 hg5 hat hW2
                        go_wp2
                        go_roundw
                        case rel =>
                          have hl : n + t = L := HLE.out
                          subst hl
                          exact ⟨t + 1, P6, c6, by omega, by go_num, rfl, HF9.out, HO9.out, HB9.out⟩
                        case measure => simp [intOf]; omega
                      · have hj1 : ¬ (t : Int) < 40 := by omega
                        have hL40 : (40 : Int) ≤ (L : Int) := by omega
                        clear hfr hxs hbk hL HYS HBK hlt HFX HXA
                        have hdr : Y.heap[db]? = some (.cells #[.int .i64 seed, .slice Pd n cd] 51) := HFY.out.dr
                        obtain ⟨y0, y1, yf⟩ := cells2 hdr
                        have HS2 : Hid (∀ r base W, Below Y.heap.size Y W → W.ownsRow base 39 3 r n (flatV (ens S.T)) → Calls Tryd.prog 22 #[r, .slice Pd n cd] W fun e w' => e = .returned (.bool true) ∧ Below W.heap.size W w') := fun r base W hW ho =>
                          same_yes _ base r (.slice Pd n cd) (ens S.T) (by rw [ens_len, HNL.out]; omega) W (by rw [ens_len, HNL.out]; exact ho) (HFY.out.on hW).er
                        have HOB : Hid (∀ W, Below Y.heap.size Y W → W.ownsRow B2 39 3 vb n (flatV (ens S.T))) := fun W hW => (HFY.out.on hW).bl
                        have HP1 : Hid (∀ W, Below Y.heap.size Y W → Calls Tryd.prog 12 #[.pointer (some ⟨p, 0, none⟩), .int .i64 0, .int .i64 1073741824, .bool false] W fun e w' => ∃ r, e = .returned r ∧ w'.ownsRow W.heap.size 39 3 r n (flatV (ens S.T)) ∧ Below W.heap.size W w') := fun W hW => by
                          have := I.Slice_all p S i W (HFY.out.on hW).bp (by omega)
                          rw [HNL.out] at this
                          exact this
                        have HTD : Hid (talL S = cl ((ens S.T).map fun e => hgM S.seed e.1) (mxH ((ens S.T).map fun e => hgM S.seed e.1))) := tal_doc HFY.out.bp
                        have HPT : Hid (∀ W, Below Y.heap.size Y W → Calls Tryd.prog 17 #[.pointer (some ⟨p, 0, none⟩)] W fun e w' => ∃ r, e = .returned r ∧ IRow w' r (talL S) ∧ Below W.heap.size W w') := fun W hW => (Tall_any p S i W (HFY.out.on hW).bp).mono (fun e w' ⟨r, h1, h2, h3⟩ => ⟨r, h1, ⟨W.heap.size, by
                          have e1 : (talL S).length = S.H := by unfold talL; simp
                          rw [e1]; exact h2⟩, h3⟩)
                        have HRT : Hid (∀ W, Below Y.heap.size Y W → Calls Tryd.prog 23 #[bval seed (.slice Pd n cd)] W fun e w' => ∃ r, e = .returned r ∧ IRow w' r (talL S) ∧ Below W.heap.size W w') := fun W hW => by
                          have := (rTall_any _ S.seed (.slice Pd n cd) (ens S.T) (by rw [ens_len, HNL.out]; omega) (ens_sz HFY.out.bp) W (HFY.out.on hW).er).mono (R' := fun e w' => ∃ r, e = .returned r ∧ IRow w' r (talL S) ∧ Below W.heap.size W w') (fun e w' ⟨r, h1, h2, h3⟩ => ⟨r, h1, ⟨W.heap.size, by rw [HTD.out]; exact h2⟩, h3⟩)
                          rw [HSD.out] at this
                          exact this
                        have HSI : Hid (∀ u1 u2 W, IRow W u1 (talL S) → IRow W u2 (talL S) → Calls Tryd.prog 16 #[u1, u2] W fun e w' => e = .returned (.bool true) ∧ Below W.heap.size W w') := fun u1 u2 W h1 h2 => by
                          have hh := HFY.out.bp.h24
                          have := sameInts_any u1 u2 (talL S) (talL S) (by unfold talL; simp; omega) W h1 h2
                          simpa using this
                        have HLQ : Hid (∀ W, Below Y.heap.size Y W → Calls Tryd.prog 13 #[.pointer (some ⟨q, 0, none⟩)] W fun e w' => e = .returned (.int .i64 0) ∧ w' = W) := fun W hW => by
                          have := I.Len_any q Sq 0 W (HFY.out.on hW).bq
                          rw [HI1.out.2.1] at this
                          exact this
                        have HSU : Hid (∀ W, Below Y.heap.size Y W → Calls Tryd.prog 18 #[] W fun e w' => e = .returned (.bool true) ∧ Below W.heap.size W w') := fun W hW => _root_.Go.Proofs.YtgbplghokciimaaDoor.S.sure_any W (HT.out.on (HFY.out.on hW).bel)
                        have HBY : Hid (∀ W, Below Y.heap.size Y W → Below w.heap.size w W) := fun W hW => (HFY.out.on hW).bel
                        clear hdr yf
                        go_upto_region 35 with fail
                        have hd : Below Y.heap.size Y Y.drew := (Below.refl _ Y).drew
                        have HKS : Hid (∀ w' : World, Below Y.heap.size Y w' → w'.cell? ⟨db, 0, none⟩ = some (.int .i64 seed) ∧ w'.cell? ⟨db, 1, none⟩ = some (.slice Pd n cd)) := fun w' hw => And.intro (cell_on y0 hw) (cell_on y1 hw)
                        have hSA := And.intro y0 y1
                        go_region_held3 (fun w' : World => w'.cell? ⟨db, 0, none⟩ = some (.int .i64 seed) ∧ w'.cell? ⟨db, 1, none⟩ = some (.slice Pd n cd))
                          (first | exact hSA | exact HKS.out _ hw1 | exact HKS.out _ hw2 | exact HKS.out _ hw3 | exact HKS.out _ hw4 | exact HKS.out _ hw5 | exact HKS.out _ hw6 | exact HKS.out _ hw7)
                          (first | (go_at_call 22; refine (show Calls _ _ _ _ _ from HS2.out r2 _ a2 hw2 hr2).mono ?_; rintro e a3 ⟨rfl, hb3⟩; have hw3 : Below Y.heap.size Y a3 := bel_to hw2 hb3 (Nat.le_refl _)) | (go_at_call 22; refine (show Calls _ _ _ _ _ from HS2.out vb _ Y.drew hd (HOB.out _ hd)).mono ?_; rintro e a1 ⟨rfl, hb1⟩; have hw1 : Below Y.heap.size Y a1 := bel_to hd hb1 (Nat.le_refl _)) | (go_at_call 12; refine (show Calls _ _ _ _ _ from HP1.out a1 hw1).mono ?_; rintro e a2 ⟨r2, rfl, hr2, hb2⟩; have hw2 : Below Y.heap.size Y a2 := bel_to hw1 hb2 (Nat.le_refl _)) | (go_at_call 17; refine (show Calls _ _ _ _ _ from HPT.out a3 hw3).mono ?_; rintro e a4 ⟨u1, rfl, hu1, hb4⟩; have hw4 : Below Y.heap.size Y a4 := bel_to hw3 hb4 (Nat.le_refl _)) | (go_at_call 23; refine (show Calls _ _ _ _ _ from HRT.out a4 hw4).mono ?_; rintro e a5 ⟨u2, rfl, hu2, hb5⟩; have hw5 : Below Y.heap.size Y a5 := bel_to hw4 hb5 (Nat.le_refl _); have hu1b := hu1.on hb5) | (go_at_call 16; refine (show Calls _ _ _ _ _ from HSI.out u1 u2 a5 hu1b hu2).mono ?_; rintro e a6 ⟨rfl, hb6⟩; have hw6 : Below Y.heap.size Y a6 := bel_to hw5 hb6 (Nat.le_refl _)) | (go_at_call 13; refine (show Calls _ _ _ _ _ from HLQ.out a6 hw6).mono ?_; rintro e a7 ⟨rfl, hb7⟩; have hb7' := hb7.symm; subst hb7') | (go_at_call 18; refine (show Calls _ _ _ _ _ from HSU.out a6 hw6).mono ?_; rintro e a8 ⟨rfl, hb8⟩; have hw7 : Below Y.heap.size Y a8 := bel_to hw6 hb8 (Nat.le_refl _)))
                        go_wp2
                        go_returns
                        exact ⟨by first | rfl | (simp; done), HBY.out _ hw7⟩
end Go.Proofs.YtgbplghokciimaaDoor
