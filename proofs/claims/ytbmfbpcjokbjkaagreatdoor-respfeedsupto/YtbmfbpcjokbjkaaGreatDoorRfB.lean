import Derived.Test.YtbmfbpcjokbjkaaGreatDoorRfA
import Derived.Test.YtbmfbpcjokbjkaaGreatDoorGK
import Derived.Test.YtbmfbpcjokbjkaaGreatDoorPcB
namespace Go.Proofs.YtbmfbpcjokbjkaaGreatDoor
open Go.RowKit Vi
set_option linter.unusedVariables false
set_option linter.unusedSimpArgs false
/-- what the document's first answers, by what read would. -/
def FsIs (B : Nat) (w' : World) (n : Nat) (G : RO) (e : Ending) : Prop :=
  (G.k = 0 ∧ ∃ P c, e = .returned (.tuple #[.agg #[.slice P 0 c, .string ⟨#[]⟩], .int .i64 0, .bool false])) ∨
  (G.k = 2 ∧ G.err ≠ [] ∧ G.args = [] ∧ e = .returned (.tuple #[.agg #[.slice none 0 0, .string (strB G.err)], .int .i64 1, .bool true])) ∨
  (G.k ≠ 0 ∧ G.err = [] ∧ ∃ P c, e = .returned (.tuple #[.agg #[.slice P G.args.length c, .string ⟨#[]⟩], .int .i64 ((n : Int) - (G.rest.length : Int)), .bool (decide (G.k = 2))]) ∧ w'.ownsRow B 9 1 (.slice P G.args.length c) G.args.length (strS G.args))
theorem rf_fin {W : World} {rb : Nat} {x y : Value} (hr : W.heap[rb]? = some (.cells #[x, y] 43)) (av : Value) (err : ByteArray) (n : Int) (told : Bool) (post : Ending → World → Prop)
    (hpost : ∀ w', Only W w' rb → post (.returned (.tuple #[.agg #[av, .string err], .int .i64 n, .bool told])) w')
    (a : Act) (hdf : a.defers = []) (h2 : a.tmps.getD 2 undef = .pointer (some ⟨rb, 0, none⟩)) (h3 : a.tmps.getD 3 undef = .int .i64 n) (h4 : a.tmps.getD 4 undef = .bool told) :
    bodyPost Tryz.prog Tryz.f32 post .ret a ((W.setCell ⟨rb, 0, none⟩ av).setCell ⟨rb, 1, none⟩ (.string err)) := by
  obtain ⟨hr9, ho9⟩ := heap_set2 W rb 43 _ _ av (.string err) hr
  obtain ⟨y0, y1, yf⟩ := prow2 hr9
  generalize (W.setCell ⟨rb, 0, none⟩ av).setCell ⟨rb, 1, none⟩ (.string err) = W9 at *
  refine bodyPost_ret (v := .tuple #[.agg #[av, .string err], .int .i64 n, .bool told]) ?_ hdf (hpost W9 ho9)
  rw [Array.getD_eq_getD_getElem?] at h2 h3 h4
  simp [results, Tryz.results32, go_sem, y0, y1, h2, h3, h4]
theorem row_only {W w' : World} {rb B n : Nat} {v x y : Value} {xs : List Value} (h : W.ownsRow B 9 1 v n xs) (ho : Only W w' rb) (hr : W.heap[rb]? = some (.cells #[x, y] 43)) : w'.ownsRow B 9 1 v n xs :=
  own_stays h (fun g hg => ho.other g (fun e => by
    obtain ⟨cur, hc⟩ := own_ty h g hg
    rw [e] at hc; exact ty_apart hc hr (by decide)))
theorem own_up {W : World} {B b n : Nat} {v : Value} {xs : List Value} (h : W.ownsRow b 9 1 v n xs) (hB : B ≤ b) : W.ownsRow B 9 1 v n xs := by
  refine ⟨h.1, ?_⟩
  rcases h.2 with q | ⟨g, cap, cur, rfl, a1, hr, a2⟩
  · exact Or.inl q
  · exact Or.inr ⟨g, cap, cur, rfl, Nat.le_trans hB a1, hr, a2⟩
theorem rd_line (s : SP.Bs) (h : s.head? ≠ some 42) : rdG (PS0 0) s = match lfAt (s.take (65536 + 1)) with
    | none => if 65536 < (s.take (65536 + 1)).length then ⟨{ PS0 0 with st := 5, part := s.take (65536 + 1) }, [], [], longLine.data.toList, 2⟩ else ⟨{ PS0 0 with st := 5, part := s.take (65536 + 1) }, [], [], [], 0⟩
    | some k => lnO (PS0 0) (s.drop (k + 1)) (lnW (s.take k)) := by
  rw [show rdG (PS0 0) s = rdLine (PS0 0) s from if_neg h]
  rfl
theorem long_is : badR ⟨#[116, 111, 111, 32, 98, 105, 103, 32, 105, 110, 108, 105, 110, 101, 32, 114, 101, 113, 117, 101, 115, 116]⟩ = longLine := by decide +kernel
theorem badl_is : badR ⟨#[117, 110, 98, 97, 108, 97, 110, 99, 101, 100, 32, 113, 117, 111, 116, 101, 115, 32, 105, 110, 32, 114, 101, 113, 117, 101, 115, 116]⟩ = badLine := by decide +kernel
set_option maxRecDepth 20000 in
set_option maxHeartbeats 4000000 in
/-- the document's first of a line of words. -/
theorem first_line (s : ByteArray) (h0 : 0 < s.size) (hs : s.size ≤ 1073741824) (hb : s[0] ≠ 42) (w : World) :
    Calls Tryz.prog 32 #[.string s] w fun e w' => FsIs w.heap.size w' s.size (rdG (PS0 0) s.data.toList) e ∧ Below w.heap.size w w' := by
  have hhd : s.data.toList.head? ≠ some 42 := by
    rw [List.head?_eq_getElem?, List.getElem?_eq_getElem (by rw [list_len]; exact h0)]
    intro e
    exact hb (by injection e)
  obtain ⟨G, hG⟩ : ∃ G, rdG (PS0 0) s.data.toList = G := ⟨_, rfl⟩
  have HG : Hid (rdG (PS0 0) s.data.toList = G) := hG
  have HRL : Hid _ := rd_line s.data.toList hhd
  rw [hG]
  have hcb : ((s[0].toNat : Int) != 42) = true := by
    simp only [bne_iff_ne, ne_eq]
    intro h9
    exact hb (UInt8.toNat_inj.1 (by have h8 : s[0].toNat = 42 := by omega
                                    rw [h8]; rfl))
  have hcb2 : ((s[0].toNat : Int) == 42) = false := by simpa using hcb
  obtain ⟨W0, hW0⟩ : ∃ W, W = (w.alloc (.cells #[.slice none 0 0, .string ⟨#[]⟩] 43)).alloc (.cells #[.slice none 0 0, .string ⟨#[]⟩] 43) := ⟨_, rfl⟩
  obtain ⟨rb, hrb⟩ : ∃ r, w.heap.size = r := ⟨_, rfl⟩
  have hb0 : Below rb w W0 := by rw [hW0, ← hrb]; exact ((Below.refl _ _).alloc (Nat.le_refl _) _).alloc (by simp) _
  have hr0 : W0.heap[rb]? = some (.cells #[.slice none 0 0, .string ⟨#[]⟩] 43) := by
    rw [hW0, ← hrb]; exact keep_row (one_alloc _ _) ((Below.refl _ _).alloc (Nat.le_refl _) _)
  have HB0 : Hid (Below rb w W0) := hb0
  have HR0 : Hid (W0.heap[rb]? = some (.cells #[.slice none 0 0, .string ⟨#[]⟩] 43)) := hr0
  have HRB : Hid (w.heap.size = rb) := hrb
  obtain ⟨z0, z1, zf⟩ := prow2 hr0
  have HLN : Hid _ := rline_any s 65536 (Nat.le_refl _) hs W0
  rw [hrb]
  have hrW : rb ≤ W0.heap.size := by have := hb0.size; rw [hrb] at this; exact this
  clear hG hb0 hr0 hhd hb hcb
  go_enter Tryz.func32, Tryz.ntmps32
  go_upto_region 2 with fail
  rw [← hW0]
  clear hW0 hrb
  cases hlf : lfAt (s.data.toList.take (65536 + 1)) with
  | some k =>
    have hk := lf_len hlf
    rw [List.length_take, list_len] at hk
    have HLR : Hid (lnR 65536 s.data.toList = (eol (s.data.toList.take k), (k : Int) + 1)) := by show _ = _; unfold lnR; rw [hlf]
    have HGE : Hid (G = lnO (PS0 0) (s.data.toList.drop (k + 1)) (lnW (s.data.toList.take k))) := by show _ = _; rw [← HG.out, HRL.out, hlf]
    rw [HLR.out] at HLN
    obtain ⟨L, hLL⟩ : ∃ L, strB (eol (s.data.toList.take k)) = L := ⟨_, rfl⟩
    dsimp only at HLN
    rw [hLL] at HLN
    have hLz : L.size ≤ 1073741824 := by
      have h9 := eol_len (s.data.toList.take k)
      rw [List.length_take, list_len] at h9
      rw [← hLL, strB_size]; omega
    have HSPL : Hid (lnW (s.data.toList.take k) = SP.sp (L.size + 1) [] L.data.toList) := by show _ = _; unfold lnW; rw [← hLL, strB_size, strB_list]
    have HSL : Hid _ := rsplit_any L hLz W0
    have hk1 : ¬ ((k : Int) + 1 < 0) := by omega
    have hk2 : (0 : Int) < (k : Int) + 1 := by omega
    clear hlf hLL
    go_wp2_with fail
    refine (show Calls _ _ _ _ _ from HLN.out).mono ?_
    rintro e w1 ⟨rfl, hw1⟩
    subst hw1
    go_wp2_with fail
    refine (show Calls _ _ _ _ _ from HSL.out).mono ?_
    rintro e w2 ⟨⟨out, P, c, hsp, rfl, hown⟩ | ⟨hsp, rfl⟩, hb2⟩
    · have HB2 : Hid (Below rb w w2) := HB0.out.trans (hb2.mono hrW)
      have HR2 : Hid (w2.heap[rb]? = some (.cells #[.slice none 0 0, .string ⟨#[]⟩] 43)) := keep_row HR0.out hb2
      have HOW : Hid (w2.ownsRow w1.heap.size 9 1 (.slice P out.length c) out.length (strS out)) := hown
      have HGO : Hid (G = lnO (PS0 0) (s.data.toList.drop (k + 1)) (some out)) := by show _ = _; rw [HGE.out, HSPL.out, hsp]
      obtain ⟨y0, y1, yf⟩ := prow2 HR2.out
      obtain ⟨no, hno⟩ : ∃ n, out.length = n := ⟨_, rfl⟩
      have HNO : Hid (out.length = no) := hno
      rw [hno] at HOW ⊢
      have hrest : (s.size : Int) - ((s.data.toList.drop (k + 1)).length : Int) = (k : Int) + 1 := by rw [List.length_drop, list_len]; omega
      have HRS : Hid _ := hrest
      clear hown hb2 hsp z0 z1 zf hno hrest
      by_cases hz : no = 0
      · have ho0 : out = [] := List.eq_nil_of_length_eq_zero (by rw [HNO.out]; exact hz)
        have hz1 : ¬ ((0 : Int) < (no : Int)) := by omega
        go_wp2
        refine rf_fin HR2.out _ _ _ _ _ (fun w' ho => ⟨Or.inr (Or.inr ?_), HB2.out.trans (ho.below (Nat.le_refl _))⟩) _ rfl rfl rfl rfl
        rw [HGO.out, ho0]
        refine ⟨by show (1 : Int) ≠ 0; decide, rfl, P, c, ?_, ?_⟩
        · show _ = Ending.returned (.tuple #[.agg #[.slice P 0 c, .string ⟨#[]⟩], .int .i64 ((s.size : Int) - ((s.data.toList.drop (k + 1)).length : Int)), .bool false])
          rw [HRS.out]
        · have h9 := row_only HOW.out ho HR2.out
          rw [hz, ho0] at h9
          exact own_up h9 hrW
      · have hz1 : (0 : Int) < (no : Int) := by omega
        have hne : out ≠ [] := fun e => hz (by rw [← HNO.out, e]; rfl)
        have HLO : Hid (lnO (PS0 0) (s.data.toList.drop (k + 1)) (some out) = ⟨{ PS0 0 with st := 5, part := [] }, s.data.toList.drop (k + 1), out, [], 2⟩) := by
          show _ = _
          cases ho9 : out with
          | nil => exact absurd ho9 hne
          | cons x l => rfl
        go_wp2
        refine rf_fin HR2.out _ _ _ _ _ (fun w' ho => ⟨Or.inr (Or.inr ?_), HB2.out.trans (ho.below (Nat.le_refl _))⟩) _ rfl rfl rfl rfl
        rw [HGO.out, HLO.out]
        refine ⟨by show (2 : Int) ≠ 0; decide, rfl, P, c, ?_, ?_⟩
        · show _ = Ending.returned (.tuple #[.agg #[.slice P out.length c, .string ⟨#[]⟩], .int .i64 ((s.size : Int) - ((s.data.toList.drop (k + 1)).length : Int)), .bool true])
          rw [HRS.out, HNO.out, decide_eq_true (show 0 < no by omega)]
        · have h9 := row_only HOW.out ho HR2.out
          show w'.ownsRow rb 9 1 (.slice P out.length c) out.length (strS out)
          rw [HNO.out]
          exact own_up h9 hrW
    · have HB2 : Hid (Below rb w w2) := HB0.out.trans (hb2.mono hrW)
      have HR2 : Hid (w2.heap[rb]? = some (.cells #[.slice none 0 0, .string ⟨#[]⟩] 43)) := keep_row HR0.out hb2
      have HGO : Hid (G = lnO (PS0 0) (s.data.toList.drop (k + 1)) none) := by show _ = _; rw [HGE.out, HSPL.out, hsp]
      have HBD : Hid _ := rbad_any ⟨#[117, 110, 98, 97, 108, 97, 110, 99, 101, 100, 32, 113, 117, 111, 116, 101, 115, 32, 105, 110, 32, 114, 101, 113, 117, 101, 115, 116]⟩ (by decide) w2
      rw [badl_is] at HBD
      have hrw2 : rb ≤ w2.heap.size := by have := HB2.out.size; rw [HRB.out] at this; exact this
      clear hb2 hsp z0 z1 zf
      go_wp2_with fail
      refine (show Calls _ _ _ _ _ from HBD.out).mono ?_
      rintro e w3 ⟨rfl, hb3⟩
      have HB3 : Hid (Below rb w w3) := HB2.out.trans (hb3.mono hrw2)
      have HR3 : Hid (w3.heap[rb]? = some (.cells #[.slice none 0 0, .string ⟨#[]⟩] 43)) := keep_row HR2.out hb3
      obtain ⟨y0, y1, yf⟩ := prow2 HR3.out
      clear hb3
      go_wp2
      refine rf_fin HR3.out _ _ _ _ _ (fun w' ho => ⟨Or.inr (Or.inl ?_), HB3.out.trans (ho.below (Nat.le_refl _))⟩) _ rfl rfl rfl rfl
      rw [HGO.out]
      exact ⟨rfl, bl_full, rfl, rfl⟩
  | none =>
    by_cases hlong : 65536 < s.size
    · have HLR : Hid (lnR 65536 s.data.toList = ([], -1)) := by show _ = _; unfold lnR; rw [hlf]; exact if_pos (by rw [list_len]; exact hlong)
      have HGE : Hid (G = ⟨{ PS0 0 with st := 5, part := s.data.toList.take (65536 + 1) }, [], [], longLine.data.toList, 2⟩) := by
        show _ = _
        rw [← HG.out, HRL.out, hlf]
        exact if_pos (by rw [List.length_take, list_len]; omega)
      rw [HLR.out] at HLN
      have HBD : Hid _ := rbad_any ⟨#[116, 111, 111, 32, 98, 105, 103, 32, 105, 110, 108, 105, 110, 101, 32, 114, 101, 113, 117, 101, 115, 116]⟩ (by decide) W0
      rw [long_is] at HBD
      clear hlf z0 z1 zf
      go_wp2_with fail
      refine (show Calls _ _ _ _ _ from HLN.out).mono ?_
      rintro e w1 ⟨rfl, hw1⟩
      subst hw1
      go_wp2_with fail
      refine (show Calls _ _ _ _ _ from HBD.out).mono ?_
      rintro e w3 ⟨rfl, hb3⟩
      have HB3 : Hid (Below rb w w3) := HB0.out.trans (hb3.mono hrW)
      have HR3 : Hid (w3.heap[rb]? = some (.cells #[.slice none 0 0, .string ⟨#[]⟩] 43)) := keep_row HR0.out hb3
      obtain ⟨y0, y1, yf⟩ := prow2 HR3.out
      clear hb3
      go_wp2
      refine rf_fin HR3.out _ _ _ _ _ (fun w' ho => ⟨Or.inr (Or.inl ?_), HB3.out.trans (ho.below (Nat.le_refl _))⟩) _ rfl rfl rfl rfl
      rw [HGE.out]
      exact ⟨rfl, ll_full, rfl, rfl⟩
    · have HLR : Hid (lnR 65536 s.data.toList = ([], 0)) := by show _ = _; unfold lnR; rw [hlf]; exact if_neg (by rw [list_len]; exact hlong)
      have HGE : Hid (G = ⟨{ PS0 0 with st := 5, part := s.data.toList.take (65536 + 1) }, [], [], [], 0⟩) := by
        show _ = _
        rw [← HG.out, HRL.out, hlf]
        exact if_neg (by rw [List.length_take, list_len]; omega)
      rw [HLR.out] at HLN
      have HSL : Hid _ := rsplit_any ⟨#[]⟩ (by decide) W0
      clear hlf
      go_wp2_with fail
      refine (show Calls _ _ _ _ _ from HLN.out).mono ?_
      rintro e w1 ⟨rfl, hw1⟩
      subst hw1
      go_wp2_with fail
      refine (show Calls _ _ _ _ _ from HSL.out).mono ?_
      rintro e w2 ⟨⟨out, P, c, hsp, rfl, hown⟩ | ⟨hsp, rfl⟩, hb2⟩
      · have ho0 : out = [] := by
          have h9 := sp_len _ _ _ _ hsp
          exact List.eq_nil_of_length_eq_zero (by simpa using h9)
        subst ho0
        have HB2 : Hid (Below rb w w2) := HB0.out.trans (hb2.mono hrW)
        have HR2 : Hid (w2.heap[rb]? = some (.cells #[.slice none 0 0, .string ⟨#[]⟩] 43)) := keep_row HR0.out hb2
        obtain ⟨y0, y1, yf⟩ := prow2 HR2.out
        clear hb2 hsp hown z0 z1 zf
        go_wp2
        refine rf_fin HR2.out _ _ _ _ _ (fun w' ho => ⟨Or.inl ?_, HB2.out.trans (ho.below (Nat.le_refl _))⟩) _ rfl rfl rfl rfl
        rw [HGE.out]
        exact ⟨rfl, P, c, rfl⟩
      · exact absurd hsp (by decide +kernel)
end Go.Proofs.YtbmfbpcjokbjkaaGreatDoor
