import Derived.Test.YtgbplghokciimaaDoorStZ
import Derived.Test.YtgbplghokciimaaDoorIS
import Derived.Deep.CutRange
namespace Go.Proofs.YtgbplghokciimaaDoor
open Go.RowKit I
set_option linter.unusedVariables false
set_option maxHeartbeats 6000000 in
set_option maxRecDepth 100000 in
theorem play_any (seed : Int) (ad : Option Addr) (len cap g off : Nat) (klo khi : Int) (had : len ≠ 0 → ad = some ⟨g, off, none⟩) (hlen : len ≤ 9223372036854775807) (w : World) (hops : ∀ i, i < len → ∃ o, OpAt w g off i o) (hT : Tab w) : Calls Tryd.prog 24 #[.agg #[.int .i64 seed, .slice ad len cap], .int .i64 klo, .int .i64 khi] w fun e w' => e = .returned (.bool true) ∧ Below w.heap.size w w' := by
  obtain ⟨W0, hW0⟩ : ∃ W0, W0 = w.alloc (.cells #[.int .i64 seed, .slice ad len cap] 24) := ⟨_, rfl⟩
  have hb0 : Below w.heap.size w W0 := by rw [hW0]; exact (Below.refl _ _).alloc (Nat.le_refl _) _
  have HC0 : Hid (W0.heap[w.heap.size]? = some (.cells #[.int .i64 seed, .slice ad len cap] 24)) := by rw [hW0]; exact one_alloc _ _
  have HB0 : Hid (Below w.heap.size w W0) := hb0
  have HOP : Hid (∀ i, i < len → ∃ o, OpAt w g off i o) := hops
  have HAD : Hid (len ≠ 0 → ad = some ⟨g, off, none⟩) := had
  have HT : Hid (Tab w) := hT
  have HN : Hid _ := I.New_any seed W0
  have HRN : Hid _ := fun W => rNew_any seed W
  have c00 : W0.cell? ⟨w.heap.size, 0, none⟩ = some (.int .i64 seed) := by rw [cell_of_row _ _ _ _ _ _ HC0.out]; rfl
  clear hb0 hops had hT
  go_enter Tryd.func24, Tryd.ntmps24
  go_upto_region 1 with fail
  rw [← hW0]
  clear hW0
  obtain ⟨cb, hcb⟩ : ∃ cb, w.heap.size = cb := ⟨_, rfl⟩
  rw [hcb] at c00 HC0 ⊢
  have HCB : Hid (w.heap.size = cb) := hcb
  clear hcb
  go_wp2_with fail
  refine (show Calls _ _ _ _ _ from HN.out).mono ?_
  rintro e w1 ⟨p, S0, rfl, hbd, hsd, hT0, hF0, hb1⟩
  have HI0 : Hid (Bd w1 p S0 0 ∧ S0.seed = seed ∧ S0.T = [] ∧ (∀ q ∈ bblk p S0, W0.heap.size ≤ q) ∧ Below W0.heap.size W0 w1) := ⟨hbd, hsd, hT0, hF0, hb1⟩
  have c01 := cell_on c00 hb1
  clear hbd hsd hT0 hF0 hb1 c00
  go_wp2_with fail
  refine (show Calls _ _ _ _ _ from HRN.out w1).mono ?_
  rintro e w2 ⟨rfl, hb2⟩
  obtain ⟨W3, hW3⟩ : ∃ W3, W3 = w2.alloc (.cells #[.int .i64 seed, .slice none 0 0] 51) := ⟨_, rfl⟩
  have hb3 : Below w2.heap.size w2 W3 := by rw [hW3]; exact (Below.refl _ _).alloc (Nat.le_refl _) _
  have hw3 : Below w1.heap.size w1 W3 := bel_to hb2 hb3 (Nat.le_refl _)
  have HD3 : Hid (W3.heap[w2.heap.size]? = some (.cells #[.int .i64 seed, .slice none 0 0] 51)) := by rw [hW3]; exact one_alloc _ _
  have HW3 : Hid (Below w1.heap.size w1 W3) := hw3
  have hz1 : w1.heap.size ≤ w2.heap.size := hb2.size
  go_upto_region 3 with fail
  rw [← hW3]
  clear hW3 hb3 hw3 c01 hb2
  obtain ⟨db, hdb⟩ : ∃ db, w2.heap.size = db := ⟨_, rfl⟩
  rw [hdb] at HD3 hz1 ⊢
  have HDZ : Hid (w1.heap.size ≤ db) := hz1
  clear hdb hz1
  go_wp2
  go_loopw [9] (fun ci wr => ∃ (i : Nat) (S : SkS) (vd : Value), i ≤ 200 ∧ ci = .int .i64 (i : Int) ∧ Bd wr p S i ∧ S.seed = seed ∧ ERow (fun q => q ∉ bblk p S) wr vd (ens S.T) ∧ wr.heap[db]? = some (.cells #[.int .i64 seed, vd] 51) ∧ db ∉ bblk p S ∧ (∀ q ∈ bblk p S, W0.heap.size ≤ q) ∧ Below W0.heap.size W0 wr) (fun ci _ => 200 - (intOf ci).toNat)
  case atStart =>
    obtain ⟨h1, h2, h3, h4, h5⟩ := HI0.out
    refine ⟨0, S0, .slice none 0 0, by omega, rfl, h1.below HW3.out, h2, Or.inl ⟨by rw [h3]; rfl, rfl⟩, HD3.out, fun hm => ?_, h4, bel_to h5 HW3.out (Nat.le_refl _)⟩
    have := h1.lts db hm
    have := HDZ.out
    omega
  case round =>
    obtain ⟨i, S, vd, hi, rfl, hbd, hsd, her, hdr, hdn, hF, hb⟩ := hrel
    obtain ⟨Pd, cd, hvd⟩ := her.form
    subst hvd
    obtain ⟨n, hn⟩ : ∃ n, S.T.length = n := ⟨_, rfl⟩
    have HNL : Hid (S.T.length = n) := hn
    rw [ens_len, hn] at her hdr
    have HBD : Hid (Bd wr p S i) := hbd
    have HSD : Hid (S.seed = seed) := hsd
    have HER : Hid (ERow (fun q => q ∉ bblk p S) wr (.slice Pd n cd) (ens S.T)) := her
    have HDR : Hid (wr.heap[db]? = some (.cells #[.int .i64 seed, .slice Pd n cd] 51)) := hdr
    have HDN : Hid (db ∉ bblk p S) := hdn
    have HF : Hid (∀ q ∈ bblk p S, W0.heap.size ≤ q) := hF
    have HB : Hid (Below W0.heap.size W0 wr) := hb
    have HBw : Hid (Below w.heap.size w wr) := bel_to HB0.out hb (Nat.le_refl _)
    have hnl : n ≤ 200 := by have := hbd.len; omega
    have hrow : wr.heap[cb]? = some (.cells #[.int .i64 seed, .slice ad len cap] 24) := keep_row HC0.out hb
    have HROW : Hid _ := hrow
    have cc1 : wr.cell? ⟨cb, 1, none⟩ = some (.slice ad len cap) := by rw [cell_of_row _ _ _ _ _ _ hrow]; rfl
    obtain ⟨e0, e1, ef⟩ := cells2 hdr
    clear hbd hsd her hdr hdn hF hb hrow hn
    by_cases hlt : i < len ∧ i < 200
    · as_aux_lemma =>
      obtain ⟨h1, h2⟩ := hlt
      have hae := HAD.out (by omega)
      subst hae
      obtain ⟨o, hop⟩ := HOP.out i h1
      have HGW : Hid (g < W0.heap.size) := Nat.lt_of_lt_of_le (lt_of_cell hop.c17.1) HB0.out.size
      have hop := hop.keep HBw.out
      have HOK : Hid (OpOk o) := ⟨hop.t, hop.fr, hop.to, hop.a, hop.b⟩
      obtain ⟨d0, d1, d2, d3, d4, d5, d6, d7, d8, d9, d10, d11, d12, d13, d14, d15, d16⟩ := hop.c17
      have hi1 : (i : Int) < (len : Int) := by omega
      have hi2 : (i : Int) < 200 := by omega
      have hi0 : (0 : Int) ≤ (i : Int) := by omega
      have hiw : IntKind.i64.wrap ((i : Int) + 1) = (i : Int) + 1 := by rw [IntKind.wrap_i64] <;> omega
      have HST : Hid (∀ W, Below wr.heap.size wr W → Calls Tryd.prog 20 #[.pointer (some ⟨p, 0, none⟩), bval seed (.slice Pd n cd), .agg (opA o)] W (StepPost p S i W)) := fun W hW => by
        have := step_any p S i (.slice Pd n cd) o W (HBD.out.below hW) (by omega) (HER.out.on hW) (HT.out.on (bel_to HBw.out hW (Nat.le_refl _))) HOK.out
        rw [HSD.out] at this
        exact this
      clear hop
      go_upto_region 8 with fail
      go_cut [10, 11] from 32 to 42 (fun s10 s11 wx => ∃ (X : Nat) (S' : SkS) (Pr : Option Addr) (nr cr : Nat), s10 = .pointer (some ⟨X, 0, none⟩) ∧ s11 = .bool true ∧ wx.heap[X]? = some (.cells #[.int .i64 seed, .slice Pr nr cr] 51) ∧ wr.heap.size ≤ X ∧ nr = (ens S'.T).length ∧ Bd wx p S' (i + 1) ∧ S'.seed = seed ∧ ERow (fun q => q ∉ bblk p S') wx (.slice Pr nr cr) (ens S'.T) ∧ Moved wr wx (bblk p S) (bblk p S'))
      case first =>
        have hSA := And.intro (cc1) (And.intro (e0) (And.intro (e1) (And.intro (d0) (And.intro (d1) (And.intro (d2) (And.intro (d3) (And.intro (d4) (And.intro (d5) (And.intro (d6) (And.intro (d7) (And.intro (d8) (And.intro (d9) (And.intro (d10) (And.intro (d11) (And.intro (d12) (And.intro (d13) (And.intro (d14) (And.intro (d15) (d16)))))))))))))))))))
        have HLL : Hid (cb < wr.heap.size ∧ db < wr.heap.size ∧ g < wr.heap.size) := ⟨row_lt HROW.out, row_lt HDR.out, lt_of_cell d0⟩
        have HNC : Hid (cb ∉ bblk p S) := fun hm => by have := HF.out _ hm; have := row_lt HC0.out; omega
        have HNG : Hid (g ∉ bblk p S) := fun hm => by have := HF.out _ hm; have := HGW.out; omega
        have HKS : Hid (∀ w' : World, Below wr.heap.size wr w' → w'.cell? ⟨cb, 1, none⟩ = some (.slice (some ⟨g, off, none⟩) len cap) ∧ w'.cell? ⟨db, 0, none⟩ = some (.int .i64 seed) ∧ w'.cell? ⟨db, 1, none⟩ = some (.slice Pd n cd) ∧ w'.cell? ⟨g, off + i * 17, none⟩ = some (.int .i64 o.k) ∧ w'.cell? ⟨g, off + i * 17 + 1, none⟩ = some (.int .i64 o.a) ∧ w'.cell? ⟨g, off + i * 17 + 2, none⟩ = some (.int .i64 o.b) ∧ w'.cell? ⟨g, off + i * 17 + 3, none⟩ = some (.string o.t) ∧ w'.cell? ⟨g, off + i * 17 + 4, none⟩ = some (.bool o.bk) ∧ w'.cell? ⟨g, off + i * 17 + 5, none⟩ = some (.int .i64 o.lo.1) ∧ w'.cell? ⟨g, off + i * 17 + 6, none⟩ = some (.int .i64 o.lo.2.1) ∧ w'.cell? ⟨g, off + i * 17 + 7, none⟩ = some (.bool o.lo.2.2) ∧ w'.cell? ⟨g, off + i * 17 + 8, none⟩ = some (.int .i64 o.hi.1) ∧ w'.cell? ⟨g, off + i * 17 + 9, none⟩ = some (.int .i64 o.hi.2.1) ∧ w'.cell? ⟨g, off + i * 17 + 10, none⟩ = some (.bool o.hi.2.2) ∧ w'.cell? ⟨g, off + i * 17 + 11, none⟩ = some (.string o.fr.1) ∧ w'.cell? ⟨g, off + i * 17 + 12, none⟩ = some (.int .i64 o.fr.2.1) ∧ w'.cell? ⟨g, off + i * 17 + 13, none⟩ = some (.bool o.fr.2.2) ∧ w'.cell? ⟨g, off + i * 17 + 14, none⟩ = some (.string o.to.1) ∧ w'.cell? ⟨g, off + i * 17 + 15, none⟩ = some (.int .i64 o.to.2.1) ∧ w'.cell? ⟨g, off + i * 17 + 16, none⟩ = some (.bool o.to.2.2)) := fun w' hw => And.intro (cell_on cc1 hw) (And.intro (cell_on e0 hw) (And.intro (cell_on e1 hw) (And.intro (cell_on d0 hw) (And.intro (cell_on d1 hw) (And.intro (cell_on d2 hw) (And.intro (cell_on d3 hw) (And.intro (cell_on d4 hw) (And.intro (cell_on d5 hw) (And.intro (cell_on d6 hw) (And.intro (cell_on d7 hw) (And.intro (cell_on d8 hw) (And.intro (cell_on d9 hw) (And.intro (cell_on d10 hw) (And.intro (cell_on d11 hw) (And.intro (cell_on d12 hw) (And.intro (cell_on d13 hw) (And.intro (cell_on d14 hw) (And.intro (cell_on d15 hw) (cell_on d16 hw)))))))))))))))))))
        have HKM : Hid (∀ (W a : World) (F' : List Nat), Below wr.heap.size wr W → Moved W a (bblk p S) F' → (a.cell? ⟨cb, 1, none⟩ = some (.slice (some ⟨g, off, none⟩) len cap) ∧ a.cell? ⟨db, 0, none⟩ = some (.int .i64 seed) ∧ a.cell? ⟨db, 1, none⟩ = some (.slice Pd n cd) ∧ a.cell? ⟨g, off + i * 17, none⟩ = some (.int .i64 o.k) ∧ a.cell? ⟨g, off + i * 17 + 1, none⟩ = some (.int .i64 o.a) ∧ a.cell? ⟨g, off + i * 17 + 2, none⟩ = some (.int .i64 o.b) ∧ a.cell? ⟨g, off + i * 17 + 3, none⟩ = some (.string o.t) ∧ a.cell? ⟨g, off + i * 17 + 4, none⟩ = some (.bool o.bk) ∧ a.cell? ⟨g, off + i * 17 + 5, none⟩ = some (.int .i64 o.lo.1) ∧ a.cell? ⟨g, off + i * 17 + 6, none⟩ = some (.int .i64 o.lo.2.1) ∧ a.cell? ⟨g, off + i * 17 + 7, none⟩ = some (.bool o.lo.2.2) ∧ a.cell? ⟨g, off + i * 17 + 8, none⟩ = some (.int .i64 o.hi.1) ∧ a.cell? ⟨g, off + i * 17 + 9, none⟩ = some (.int .i64 o.hi.2.1) ∧ a.cell? ⟨g, off + i * 17 + 10, none⟩ = some (.bool o.hi.2.2) ∧ a.cell? ⟨g, off + i * 17 + 11, none⟩ = some (.string o.fr.1) ∧ a.cell? ⟨g, off + i * 17 + 12, none⟩ = some (.int .i64 o.fr.2.1) ∧ a.cell? ⟨g, off + i * 17 + 13, none⟩ = some (.bool o.fr.2.2) ∧ a.cell? ⟨g, off + i * 17 + 14, none⟩ = some (.string o.to.1) ∧ a.cell? ⟨g, off + i * 17 + 15, none⟩ = some (.int .i64 o.to.2.1) ∧ a.cell? ⟨g, off + i * 17 + 16, none⟩ = some (.bool o.to.2.2))) := fun W a F' hW hm => And.intro ((World.cell?_of_block (a := ⟨cb, 1, none⟩) (hm.rest cb (Nat.lt_of_lt_of_le HLL.out.1 hW.size) HNC.out)).trans (cell_on cc1 hW)) (And.intro ((World.cell?_of_block (a := ⟨db, 0, none⟩) (hm.rest db (Nat.lt_of_lt_of_le HLL.out.2.1 hW.size) HDN.out)).trans (cell_on e0 hW)) (And.intro ((World.cell?_of_block (a := ⟨db, 1, none⟩) (hm.rest db (Nat.lt_of_lt_of_le HLL.out.2.1 hW.size) HDN.out)).trans (cell_on e1 hW)) (And.intro ((World.cell?_of_block (a := ⟨g, off + i * 17, none⟩) (hm.rest g (Nat.lt_of_lt_of_le HLL.out.2.2 hW.size) HNG.out)).trans (cell_on d0 hW)) (And.intro ((World.cell?_of_block (a := ⟨g, off + i * 17 + 1, none⟩) (hm.rest g (Nat.lt_of_lt_of_le HLL.out.2.2 hW.size) HNG.out)).trans (cell_on d1 hW)) (And.intro ((World.cell?_of_block (a := ⟨g, off + i * 17 + 2, none⟩) (hm.rest g (Nat.lt_of_lt_of_le HLL.out.2.2 hW.size) HNG.out)).trans (cell_on d2 hW)) (And.intro ((World.cell?_of_block (a := ⟨g, off + i * 17 + 3, none⟩) (hm.rest g (Nat.lt_of_lt_of_le HLL.out.2.2 hW.size) HNG.out)).trans (cell_on d3 hW)) (And.intro ((World.cell?_of_block (a := ⟨g, off + i * 17 + 4, none⟩) (hm.rest g (Nat.lt_of_lt_of_le HLL.out.2.2 hW.size) HNG.out)).trans (cell_on d4 hW)) (And.intro ((World.cell?_of_block (a := ⟨g, off + i * 17 + 5, none⟩) (hm.rest g (Nat.lt_of_lt_of_le HLL.out.2.2 hW.size) HNG.out)).trans (cell_on d5 hW)) (And.intro ((World.cell?_of_block (a := ⟨g, off + i * 17 + 6, none⟩) (hm.rest g (Nat.lt_of_lt_of_le HLL.out.2.2 hW.size) HNG.out)).trans (cell_on d6 hW)) (And.intro ((World.cell?_of_block (a := ⟨g, off + i * 17 + 7, none⟩) (hm.rest g (Nat.lt_of_lt_of_le HLL.out.2.2 hW.size) HNG.out)).trans (cell_on d7 hW)) (And.intro ((World.cell?_of_block (a := ⟨g, off + i * 17 + 8, none⟩) (hm.rest g (Nat.lt_of_lt_of_le HLL.out.2.2 hW.size) HNG.out)).trans (cell_on d8 hW)) (And.intro ((World.cell?_of_block (a := ⟨g, off + i * 17 + 9, none⟩) (hm.rest g (Nat.lt_of_lt_of_le HLL.out.2.2 hW.size) HNG.out)).trans (cell_on d9 hW)) (And.intro ((World.cell?_of_block (a := ⟨g, off + i * 17 + 10, none⟩) (hm.rest g (Nat.lt_of_lt_of_le HLL.out.2.2 hW.size) HNG.out)).trans (cell_on d10 hW)) (And.intro ((World.cell?_of_block (a := ⟨g, off + i * 17 + 11, none⟩) (hm.rest g (Nat.lt_of_lt_of_le HLL.out.2.2 hW.size) HNG.out)).trans (cell_on d11 hW)) (And.intro ((World.cell?_of_block (a := ⟨g, off + i * 17 + 12, none⟩) (hm.rest g (Nat.lt_of_lt_of_le HLL.out.2.2 hW.size) HNG.out)).trans (cell_on d12 hW)) (And.intro ((World.cell?_of_block (a := ⟨g, off + i * 17 + 13, none⟩) (hm.rest g (Nat.lt_of_lt_of_le HLL.out.2.2 hW.size) HNG.out)).trans (cell_on d13 hW)) (And.intro ((World.cell?_of_block (a := ⟨g, off + i * 17 + 14, none⟩) (hm.rest g (Nat.lt_of_lt_of_le HLL.out.2.2 hW.size) HNG.out)).trans (cell_on d14 hW)) (And.intro ((World.cell?_of_block (a := ⟨g, off + i * 17 + 15, none⟩) (hm.rest g (Nat.lt_of_lt_of_le HLL.out.2.2 hW.size) HNG.out)).trans (cell_on d15 hW)) ((World.cell?_of_block (a := ⟨g, off + i * 17 + 16, none⟩) (hm.rest g (Nat.lt_of_lt_of_le HLL.out.2.2 hW.size) HNG.out)).trans (cell_on d16 hW))))))))))))))))))))
        have HKA : Hid (∀ a B : World, (a.cell? ⟨cb, 1, none⟩ = some (.slice (some ⟨g, off, none⟩) len cap) ∧ a.cell? ⟨db, 0, none⟩ = some (.int .i64 seed) ∧ a.cell? ⟨db, 1, none⟩ = some (.slice Pd n cd) ∧ a.cell? ⟨g, off + i * 17, none⟩ = some (.int .i64 o.k) ∧ a.cell? ⟨g, off + i * 17 + 1, none⟩ = some (.int .i64 o.a) ∧ a.cell? ⟨g, off + i * 17 + 2, none⟩ = some (.int .i64 o.b) ∧ a.cell? ⟨g, off + i * 17 + 3, none⟩ = some (.string o.t) ∧ a.cell? ⟨g, off + i * 17 + 4, none⟩ = some (.bool o.bk) ∧ a.cell? ⟨g, off + i * 17 + 5, none⟩ = some (.int .i64 o.lo.1) ∧ a.cell? ⟨g, off + i * 17 + 6, none⟩ = some (.int .i64 o.lo.2.1) ∧ a.cell? ⟨g, off + i * 17 + 7, none⟩ = some (.bool o.lo.2.2) ∧ a.cell? ⟨g, off + i * 17 + 8, none⟩ = some (.int .i64 o.hi.1) ∧ a.cell? ⟨g, off + i * 17 + 9, none⟩ = some (.int .i64 o.hi.2.1) ∧ a.cell? ⟨g, off + i * 17 + 10, none⟩ = some (.bool o.hi.2.2) ∧ a.cell? ⟨g, off + i * 17 + 11, none⟩ = some (.string o.fr.1) ∧ a.cell? ⟨g, off + i * 17 + 12, none⟩ = some (.int .i64 o.fr.2.1) ∧ a.cell? ⟨g, off + i * 17 + 13, none⟩ = some (.bool o.fr.2.2) ∧ a.cell? ⟨g, off + i * 17 + 14, none⟩ = some (.string o.to.1) ∧ a.cell? ⟨g, off + i * 17 + 15, none⟩ = some (.int .i64 o.to.2.1) ∧ a.cell? ⟨g, off + i * 17 + 16, none⟩ = some (.bool o.to.2.2)) → Below a.heap.size a B → (B.cell? ⟨cb, 1, none⟩ = some (.slice (some ⟨g, off, none⟩) len cap) ∧ B.cell? ⟨db, 0, none⟩ = some (.int .i64 seed) ∧ B.cell? ⟨db, 1, none⟩ = some (.slice Pd n cd) ∧ B.cell? ⟨g, off + i * 17, none⟩ = some (.int .i64 o.k) ∧ B.cell? ⟨g, off + i * 17 + 1, none⟩ = some (.int .i64 o.a) ∧ B.cell? ⟨g, off + i * 17 + 2, none⟩ = some (.int .i64 o.b) ∧ B.cell? ⟨g, off + i * 17 + 3, none⟩ = some (.string o.t) ∧ B.cell? ⟨g, off + i * 17 + 4, none⟩ = some (.bool o.bk) ∧ B.cell? ⟨g, off + i * 17 + 5, none⟩ = some (.int .i64 o.lo.1) ∧ B.cell? ⟨g, off + i * 17 + 6, none⟩ = some (.int .i64 o.lo.2.1) ∧ B.cell? ⟨g, off + i * 17 + 7, none⟩ = some (.bool o.lo.2.2) ∧ B.cell? ⟨g, off + i * 17 + 8, none⟩ = some (.int .i64 o.hi.1) ∧ B.cell? ⟨g, off + i * 17 + 9, none⟩ = some (.int .i64 o.hi.2.1) ∧ B.cell? ⟨g, off + i * 17 + 10, none⟩ = some (.bool o.hi.2.2) ∧ B.cell? ⟨g, off + i * 17 + 11, none⟩ = some (.string o.fr.1) ∧ B.cell? ⟨g, off + i * 17 + 12, none⟩ = some (.int .i64 o.fr.2.1) ∧ B.cell? ⟨g, off + i * 17 + 13, none⟩ = some (.bool o.fr.2.2) ∧ B.cell? ⟨g, off + i * 17 + 14, none⟩ = some (.string o.to.1) ∧ B.cell? ⟨g, off + i * 17 + 15, none⟩ = some (.int .i64 o.to.2.1) ∧ B.cell? ⟨g, off + i * 17 + 16, none⟩ = some (.bool o.to.2.2))) := fun a B hs hw => And.intro (cell_on hs.1 hw) (And.intro (cell_on hs.2.1 hw) (And.intro (cell_on hs.2.2.1 hw) (And.intro (cell_on hs.2.2.2.1 hw) (And.intro (cell_on hs.2.2.2.2.1 hw) (And.intro (cell_on hs.2.2.2.2.2.1 hw) (And.intro (cell_on hs.2.2.2.2.2.2.1 hw) (And.intro (cell_on hs.2.2.2.2.2.2.2.1 hw) (And.intro (cell_on hs.2.2.2.2.2.2.2.2.1 hw) (And.intro (cell_on hs.2.2.2.2.2.2.2.2.2.1 hw) (And.intro (cell_on hs.2.2.2.2.2.2.2.2.2.2.1 hw) (And.intro (cell_on hs.2.2.2.2.2.2.2.2.2.2.2.1 hw) (And.intro (cell_on hs.2.2.2.2.2.2.2.2.2.2.2.2.1 hw) (And.intro (cell_on hs.2.2.2.2.2.2.2.2.2.2.2.2.2.1 hw) (And.intro (cell_on hs.2.2.2.2.2.2.2.2.2.2.2.2.2.2.1 hw) (And.intro (cell_on hs.2.2.2.2.2.2.2.2.2.2.2.2.2.2.2.1 hw) (And.intro (cell_on hs.2.2.2.2.2.2.2.2.2.2.2.2.2.2.2.2.1 hw) (And.intro (cell_on hs.2.2.2.2.2.2.2.2.2.2.2.2.2.2.2.2.2.1 hw) (And.intro (cell_on hs.2.2.2.2.2.2.2.2.2.2.2.2.2.2.2.2.2.2.1 hw) (cell_on hs.2.2.2.2.2.2.2.2.2.2.2.2.2.2.2.2.2.2.2 hw)))))))))))))))))))
        have HKO : Hid (∀ a B : World, (a.cell? ⟨cb, 1, none⟩ = some (.slice (some ⟨g, off, none⟩) len cap) ∧ a.cell? ⟨db, 0, none⟩ = some (.int .i64 seed) ∧ a.cell? ⟨db, 1, none⟩ = some (.slice Pd n cd) ∧ a.cell? ⟨g, off + i * 17, none⟩ = some (.int .i64 o.k) ∧ a.cell? ⟨g, off + i * 17 + 1, none⟩ = some (.int .i64 o.a) ∧ a.cell? ⟨g, off + i * 17 + 2, none⟩ = some (.int .i64 o.b) ∧ a.cell? ⟨g, off + i * 17 + 3, none⟩ = some (.string o.t) ∧ a.cell? ⟨g, off + i * 17 + 4, none⟩ = some (.bool o.bk) ∧ a.cell? ⟨g, off + i * 17 + 5, none⟩ = some (.int .i64 o.lo.1) ∧ a.cell? ⟨g, off + i * 17 + 6, none⟩ = some (.int .i64 o.lo.2.1) ∧ a.cell? ⟨g, off + i * 17 + 7, none⟩ = some (.bool o.lo.2.2) ∧ a.cell? ⟨g, off + i * 17 + 8, none⟩ = some (.int .i64 o.hi.1) ∧ a.cell? ⟨g, off + i * 17 + 9, none⟩ = some (.int .i64 o.hi.2.1) ∧ a.cell? ⟨g, off + i * 17 + 10, none⟩ = some (.bool o.hi.2.2) ∧ a.cell? ⟨g, off + i * 17 + 11, none⟩ = some (.string o.fr.1) ∧ a.cell? ⟨g, off + i * 17 + 12, none⟩ = some (.int .i64 o.fr.2.1) ∧ a.cell? ⟨g, off + i * 17 + 13, none⟩ = some (.bool o.fr.2.2) ∧ a.cell? ⟨g, off + i * 17 + 14, none⟩ = some (.string o.to.1) ∧ a.cell? ⟨g, off + i * 17 + 15, none⟩ = some (.int .i64 o.to.2.1) ∧ a.cell? ⟨g, off + i * 17 + 16, none⟩ = some (.bool o.to.2.2)) → Only a B wr.heap.size → (B.cell? ⟨cb, 1, none⟩ = some (.slice (some ⟨g, off, none⟩) len cap) ∧ B.cell? ⟨db, 0, none⟩ = some (.int .i64 seed) ∧ B.cell? ⟨db, 1, none⟩ = some (.slice Pd n cd) ∧ B.cell? ⟨g, off + i * 17, none⟩ = some (.int .i64 o.k) ∧ B.cell? ⟨g, off + i * 17 + 1, none⟩ = some (.int .i64 o.a) ∧ B.cell? ⟨g, off + i * 17 + 2, none⟩ = some (.int .i64 o.b) ∧ B.cell? ⟨g, off + i * 17 + 3, none⟩ = some (.string o.t) ∧ B.cell? ⟨g, off + i * 17 + 4, none⟩ = some (.bool o.bk) ∧ B.cell? ⟨g, off + i * 17 + 5, none⟩ = some (.int .i64 o.lo.1) ∧ B.cell? ⟨g, off + i * 17 + 6, none⟩ = some (.int .i64 o.lo.2.1) ∧ B.cell? ⟨g, off + i * 17 + 7, none⟩ = some (.bool o.lo.2.2) ∧ B.cell? ⟨g, off + i * 17 + 8, none⟩ = some (.int .i64 o.hi.1) ∧ B.cell? ⟨g, off + i * 17 + 9, none⟩ = some (.int .i64 o.hi.2.1) ∧ B.cell? ⟨g, off + i * 17 + 10, none⟩ = some (.bool o.hi.2.2) ∧ B.cell? ⟨g, off + i * 17 + 11, none⟩ = some (.string o.fr.1) ∧ B.cell? ⟨g, off + i * 17 + 12, none⟩ = some (.int .i64 o.fr.2.1) ∧ B.cell? ⟨g, off + i * 17 + 13, none⟩ = some (.bool o.fr.2.2) ∧ B.cell? ⟨g, off + i * 17 + 14, none⟩ = some (.string o.to.1) ∧ B.cell? ⟨g, off + i * 17 + 15, none⟩ = some (.int .i64 o.to.2.1) ∧ B.cell? ⟨g, off + i * 17 + 16, none⟩ = some (.bool o.to.2.2))) := fun a B hs ho => And.intro ((World.cell?_of_block (a := ⟨cb, 1, none⟩) (ho.other cb (by have := HLL.out; omega))).trans hs.1) (And.intro ((World.cell?_of_block (a := ⟨db, 0, none⟩) (ho.other db (by have := HLL.out; omega))).trans hs.2.1) (And.intro ((World.cell?_of_block (a := ⟨db, 1, none⟩) (ho.other db (by have := HLL.out; omega))).trans hs.2.2.1) (And.intro ((World.cell?_of_block (a := ⟨g, off + i * 17, none⟩) (ho.other g (by have := HLL.out; omega))).trans hs.2.2.2.1) (And.intro ((World.cell?_of_block (a := ⟨g, off + i * 17 + 1, none⟩) (ho.other g (by have := HLL.out; omega))).trans hs.2.2.2.2.1) (And.intro ((World.cell?_of_block (a := ⟨g, off + i * 17 + 2, none⟩) (ho.other g (by have := HLL.out; omega))).trans hs.2.2.2.2.2.1) (And.intro ((World.cell?_of_block (a := ⟨g, off + i * 17 + 3, none⟩) (ho.other g (by have := HLL.out; omega))).trans hs.2.2.2.2.2.2.1) (And.intro ((World.cell?_of_block (a := ⟨g, off + i * 17 + 4, none⟩) (ho.other g (by have := HLL.out; omega))).trans hs.2.2.2.2.2.2.2.1) (And.intro ((World.cell?_of_block (a := ⟨g, off + i * 17 + 5, none⟩) (ho.other g (by have := HLL.out; omega))).trans hs.2.2.2.2.2.2.2.2.1) (And.intro ((World.cell?_of_block (a := ⟨g, off + i * 17 + 6, none⟩) (ho.other g (by have := HLL.out; omega))).trans hs.2.2.2.2.2.2.2.2.2.1) (And.intro ((World.cell?_of_block (a := ⟨g, off + i * 17 + 7, none⟩) (ho.other g (by have := HLL.out; omega))).trans hs.2.2.2.2.2.2.2.2.2.2.1) (And.intro ((World.cell?_of_block (a := ⟨g, off + i * 17 + 8, none⟩) (ho.other g (by have := HLL.out; omega))).trans hs.2.2.2.2.2.2.2.2.2.2.2.1) (And.intro ((World.cell?_of_block (a := ⟨g, off + i * 17 + 9, none⟩) (ho.other g (by have := HLL.out; omega))).trans hs.2.2.2.2.2.2.2.2.2.2.2.2.1) (And.intro ((World.cell?_of_block (a := ⟨g, off + i * 17 + 10, none⟩) (ho.other g (by have := HLL.out; omega))).trans hs.2.2.2.2.2.2.2.2.2.2.2.2.2.1) (And.intro ((World.cell?_of_block (a := ⟨g, off + i * 17 + 11, none⟩) (ho.other g (by have := HLL.out; omega))).trans hs.2.2.2.2.2.2.2.2.2.2.2.2.2.2.1) (And.intro ((World.cell?_of_block (a := ⟨g, off + i * 17 + 12, none⟩) (ho.other g (by have := HLL.out; omega))).trans hs.2.2.2.2.2.2.2.2.2.2.2.2.2.2.2.1) (And.intro ((World.cell?_of_block (a := ⟨g, off + i * 17 + 13, none⟩) (ho.other g (by have := HLL.out; omega))).trans hs.2.2.2.2.2.2.2.2.2.2.2.2.2.2.2.2.1) (And.intro ((World.cell?_of_block (a := ⟨g, off + i * 17 + 14, none⟩) (ho.other g (by have := HLL.out; omega))).trans hs.2.2.2.2.2.2.2.2.2.2.2.2.2.2.2.2.2.1) (And.intro ((World.cell?_of_block (a := ⟨g, off + i * 17 + 15, none⟩) (ho.other g (by have := HLL.out; omega))).trans hs.2.2.2.2.2.2.2.2.2.2.2.2.2.2.2.2.2.2.1) ((World.cell?_of_block (a := ⟨g, off + i * 17 + 16, none⟩) (ho.other g (by have := HLL.out; omega))).trans hs.2.2.2.2.2.2.2.2.2.2.2.2.2.2.2.2.2.2.2)))))))))))))))))))
        have HXR : Hid ((wr.alloc (.cells #[.int .i64 0, .slice none 0 0] 51)).drew.heap[wr.heap.size]? = some (.cells #[.int .i64 0, .slice none 0 0] 51)) := one_alloc _ _
        have HNX : Hid (wr.heap.size ∉ bblk p S) := fun hm => by have := HBD.out.lts _ hm; omega
        go_region_held3 (fun w' : World => w'.cell? ⟨cb, 1, none⟩ = some (.slice (some ⟨g, off, none⟩) len cap) ∧ w'.cell? ⟨db, 0, none⟩ = some (.int .i64 seed) ∧ w'.cell? ⟨db, 1, none⟩ = some (.slice Pd n cd) ∧ w'.cell? ⟨g, off + i * 17, none⟩ = some (.int .i64 o.k) ∧ w'.cell? ⟨g, off + i * 17 + 1, none⟩ = some (.int .i64 o.a) ∧ w'.cell? ⟨g, off + i * 17 + 2, none⟩ = some (.int .i64 o.b) ∧ w'.cell? ⟨g, off + i * 17 + 3, none⟩ = some (.string o.t) ∧ w'.cell? ⟨g, off + i * 17 + 4, none⟩ = some (.bool o.bk) ∧ w'.cell? ⟨g, off + i * 17 + 5, none⟩ = some (.int .i64 o.lo.1) ∧ w'.cell? ⟨g, off + i * 17 + 6, none⟩ = some (.int .i64 o.lo.2.1) ∧ w'.cell? ⟨g, off + i * 17 + 7, none⟩ = some (.bool o.lo.2.2) ∧ w'.cell? ⟨g, off + i * 17 + 8, none⟩ = some (.int .i64 o.hi.1) ∧ w'.cell? ⟨g, off + i * 17 + 9, none⟩ = some (.int .i64 o.hi.2.1) ∧ w'.cell? ⟨g, off + i * 17 + 10, none⟩ = some (.bool o.hi.2.2) ∧ w'.cell? ⟨g, off + i * 17 + 11, none⟩ = some (.string o.fr.1) ∧ w'.cell? ⟨g, off + i * 17 + 12, none⟩ = some (.int .i64 o.fr.2.1) ∧ w'.cell? ⟨g, off + i * 17 + 13, none⟩ = some (.bool o.fr.2.2) ∧ w'.cell? ⟨g, off + i * 17 + 14, none⟩ = some (.string o.to.1) ∧ w'.cell? ⟨g, off + i * 17 + 15, none⟩ = some (.int .i64 o.to.2.1) ∧ w'.cell? ⟨g, off + i * 17 + 16, none⟩ = some (.bool o.to.2.2))
          (first | exact hSA | exact hS1 | (refine HKS.out _ ?_; (repeat (first | exact Below.refl _ _ | refine Below.drew ?_ | refine Below.alloc ?_ (by simp <;> omega) _)); done) | (refine HKA.out _ _ hS1 ?_; (repeat (first | exact Below.refl _ _ | refine Below.drew ?_ | refine Below.alloc ?_ (by simp <;> omega) _)); done) | exact HKO.out _ _ hS1 (((Only.refl _ _).set 0 _).set 1 _))
          (first | (go_at_call 20; refine Calls.mono (HST.out _ ?_) ?_; (repeat (first | exact Below.refl _ _ | refine Below.drew ?_ | refine Below.alloc ?_ (by simp <;> omega) _)); rintro e a1 ⟨S', r, rfl, hbd, hsd, her', hmv⟩; rw [HSD.out] at hsd ⊢; have hS1 := HKM.out _ a1 _ (by repeat (first | exact Below.refl _ _ | refine Below.drew ?_ | refine Below.alloc ?_ (by simp <;> omega) _)) hmv; obtain ⟨Pr, cr, hrr⟩ := her'.form; subst hrr; obtain ⟨nr, hnr⟩ : ∃ nr, (ens S'.T).length = nr := ⟨_, rfl⟩; rw [hnr] at her' ⊢; have HNR : Hid ((ens S'.T).length = nr) := hnr; clear hnr; (try (have hxk := hmv.keep HXR.out HNX.out; obtain ⟨z0, z1, zf⟩ := cells2 hxk))))
        all_goals
          go_wp2_with fail
          go_meet
          first
          | (have hxk2 := hxk
             have hon : Only a1 ((a1.setCell ⟨wr.heap.size, 0, none⟩ (.int .i64 seed)).setCell ⟨wr.heap.size, 1, none⟩ (.slice Pr nr cr)) wr.heap.size := ((Only.refl _ _).set 0 _).set 1 _
             obtain ⟨q1, q2, q3⟩ := StepPost.box (w := wr) HBD.out.lts (((Below.refl _ wr).alloc (Nat.le_refl _) _).drew) hbd her' hmv hxk2 (Nat.le_refl _) (by show wr.heap.size < (wr.alloc _).heap.size; simp) hon
             refine ⟨wr.heap.size, S', Pr, nr, cr, rfl, rfl, ?_, Nat.le_refl _, HNR.out.symm, q1, hsd, q2, q3⟩
             rw [heap_setCell_same _ _ _ _ _ _ (heap_setCell_same _ _ _ _ _ _ hxk2)]
             rfl)
          | (have hba : Below a1.heap.size a1 (a1.alloc (.cells #[.int .i64 seed, .slice Pr nr cr] 51)) := (Below.refl _ _).alloc (Nat.le_refl _) _
             have hmw : Moved wr a1 (bblk p S) (bblk p S') := (Moved.of_below ((Below.refl _ wr).drew)).trans hmv
             exact ⟨a1.heap.size, S', Pr, nr, cr, rfl, rfl, one_alloc _ _, hmw.size, HNR.out.symm, hbd.below hba, hsd, her'.on hba, hmw.trans (Moved.of_below hba)⟩)
      case rest =>
        obtain ⟨X, S', Pr, nr, cr, rfl, rfl, hx, hX, hnr, hbd', hsd', her', hmv'⟩ := hcut
        have hdw : wc.heap[db]? = some (.cells #[.int .i64 seed, .slice Pd n cd] 51) := hmv'.keep HDR.out HDN.out
        have hdb2 := row_lt HDR.out
        have hdn' : db ∉ bblk p S' := fun hm => by
          rcases hmv'.new db hm with q | q
          · exact HDN.out q
          · omega
        obtain ⟨hbl', hF'⟩ := Moved.bel hmv' HB.out (Nat.le_refl _) HF.out
        have HDW : Hid (wc.heap[db]? = some (.cells #[.int .i64 seed, .slice Pd n cd] 51)) := hdw
        obtain ⟨W9, hW9⟩ : ∃ W9, W9 = (wc.setCell ⟨db, 0, none⟩ (.int .i64 seed)).setCell ⟨db, 1, none⟩ (.slice Pr nr cr) := ⟨_, rfl⟩
        have hr9 : W9.heap[db]? = some (.cells #[.int .i64 seed, .slice Pr nr cr] 51) := by
          rw [hW9, heap_setCell_same _ _ _ _ _ _ (heap_setCell_same _ _ _ _ _ _ hdw)]
          rfl
        have hon : Only wc W9 db := by rw [hW9]; exact ((Only.refl _ db).set 0 _).set 1 _
        have hdz : W0.heap.size ≤ db := Nat.le_trans HI0.out.2.2.2.2.size HDZ.out
        have HEND : Hid (Bd W9.drew p S' (i + 1) ∧ S'.seed = seed ∧ ERow (fun q => q ∉ bblk p S') W9.drew (.slice Pr nr cr) (ens S'.T) ∧ W9.drew.heap[db]? = some (.cells #[.int .i64 seed, .slice Pr nr cr] 51) ∧ db ∉ bblk p S' ∧ (∀ q ∈ bblk p S', W0.heap.size ≤ q) ∧ Below W0.heap.size W0 W9.drew) :=
          ⟨(hbd'.to (fun q hq => hon.other q (fun e => hdn' (by rw [← e]; exact hq)))).below ((Below.refl _ W9).drew), hsd', (her'.box hdw hon).on ((Below.refl _ W9).drew), hr9, hdn', hF', (hbl'.trans (hon.below hdz)).drew⟩
        have HLEN : Hid _ := I.Len_any p S' (i + 1) W9.drew HEND.out.1
        have hln : S'.T.length = nr := by rw [hnr, ens_len]
        rw [hln] at HLEN
        obtain ⟨x0, x1, xf⟩ := cells2 hx
        obtain ⟨b0, b1, bf⟩ := cells2 hdw
        have h9 : W9.cell? ⟨db, 1, none⟩ = some (.slice Pr nr cr) := (cells2 hr9).2.1
        clear hx hnr hbd' hsd' her' hmv' hdw hdn' hbl' hF' hr9 hon hdz hln cc1 e0 e1 ef d0 d1 d2 d3 d4 d5 d6 d7 d8 d9 d10 d11 d12 d13 d14 d15 d16 hX hdb2
        go_upto_region 10 with fail
        rw [← hW9]
        clear hW9 x0 x1 xf b0 b1 bf
        go_region_held3 (fun w' : World => w'.cell? ⟨db, 1, none⟩ = some (.slice Pr nr cr))
          (first | exact h9)
          (first | (go_at_call 13; refine (show Calls _ _ _ _ _ from HLEN.out).mono ?_; rintro e w1' ⟨rfl, hw1⟩; have hw1' := hw1.symm; subst hw1'))
        clear h9
        go_wp2
        go_roundw
        case rel =>
          obtain ⟨q1, q2, q3, q4, q5, q6, q7⟩ := HEND.out
          exact ⟨i + 1, S', .slice Pr nr cr, by omega, by go_num, q1, q2, q3, q4, q5, q6, q7⟩
        case measure => simp [intOf]; omega
    · have HSL : Hid _ := I.Slice_all p S i wr HBD.out (by omega)
      rcases Nat.lt_or_ge i len with hl | hl
      · as_aux_lemma =>
        have hi1 : (i : Int) < (len : Int) := by omega
        have hi2 : ¬ (i : Int) < 200 := by omega
        go_upto_region 12 with fail
        clear hi1 hi2 cc1 hlt hl
        go_wp2_with fail
        refine (show Calls _ _ _ _ _ from HSL.out).mono ?_
        rintro e w4 ⟨r, rfl, hown, hb4⟩
        obtain ⟨Pr, cr, hrf⟩ := own_form hown
        subst hrf
        have hen : S.T.length = n := HNL.out
        rw [hen] at hown ⊢
        have HB4 : Hid (Below wr.heap.size wr w4) := hb4
        have HSA : Hid _ := same_yes _ _ (.slice Pr n cr) (.slice Pd n cd) (ens S.T) (by rw [ens_len, hen]; omega) w4 (by rw [ens_len, hen]; exact hown) (HER.out.on hb4)
        have f1 := cell_on e1 hb4
        clear hown hb4 e0 e1 hen
        go_wp2_with fail
        refine (show Calls _ _ _ _ _ from HSA.out).mono ?_
        rintro e w5 ⟨rfl, hb5⟩
        have HB5 : Hid (Below wr.heap.size wr w5) := bel_to HB4.out hb5 (Nat.le_refl _)
        have HBw5 : Hid (Below w.heap.size w w5) := bel_to HBw.out HB5.out (Nat.le_refl _)
        have HSU : Hid _ := _root_.Go.Proofs.YtgbplghokciimaaDoor.S.sure_any w5 (HT.out.on HBw5.out)
        clear hb5 f1
        go_wp2_with fail
        refine (show Calls _ _ _ _ _ from HSU.out).mono ?_
        rintro e w6 ⟨rfl, hb6⟩
        have HB6 : Hid (Below w.heap.size w w6) := bel_to HBw5.out hb6 (Nat.le_refl _)
        clear hb6
        go_wp2
        go_returns
        exact ⟨by first | rfl | (simp; done), HB6.out⟩
      · as_aux_lemma =>
        have hi1 : ¬ (i : Int) < (len : Int) := by omega
        go_upto_region 12 with fail
        clear hi1 cc1 hlt hl
        go_wp2_with fail
        refine (show Calls _ _ _ _ _ from HSL.out).mono ?_
        rintro e w4 ⟨r, rfl, hown, hb4⟩
        obtain ⟨Pr, cr, hrf⟩ := own_form hown
        subst hrf
        have hen : S.T.length = n := HNL.out
        rw [hen] at hown ⊢
        have HB4 : Hid (Below wr.heap.size wr w4) := hb4
        have HSA : Hid _ := same_yes _ _ (.slice Pr n cr) (.slice Pd n cd) (ens S.T) (by rw [ens_len, hen]; omega) w4 (by rw [ens_len, hen]; exact hown) (HER.out.on hb4)
        have f1 := cell_on e1 hb4
        clear hown hb4 e0 e1 hen
        go_wp2_with fail
        refine (show Calls _ _ _ _ _ from HSA.out).mono ?_
        rintro e w5 ⟨rfl, hb5⟩
        have HB5 : Hid (Below wr.heap.size wr w5) := bel_to HB4.out hb5 (Nat.le_refl _)
        have HBw5 : Hid (Below w.heap.size w w5) := bel_to HBw.out HB5.out (Nat.le_refl _)
        have HSU : Hid _ := _root_.Go.Proofs.YtgbplghokciimaaDoor.S.sure_any w5 (HT.out.on HBw5.out)
        clear hb5 f1
        go_wp2_with fail
        refine (show Calls _ _ _ _ _ from HSU.out).mono ?_
        rintro e w6 ⟨rfl, hb6⟩
        have HB6 : Hid (Below w.heap.size w w6) := bel_to HBw5.out hb6 (Nat.le_refl _)
        clear hb6
        go_wp2
        go_returns
        exact ⟨by first | rfl | (simp; done), HB6.out⟩
end Go.Proofs.YtgbplghokciimaaDoor
