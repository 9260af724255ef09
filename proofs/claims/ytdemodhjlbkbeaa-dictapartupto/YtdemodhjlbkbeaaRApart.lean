import Derived.Test.YtdemodhjlbkbeaaRQ
import Derived.Test.YtdemodhjlbkbeaaRT
import Derived.Test.YtdemodhjlbkbeaaRS
namespace Go.Proofs.Ytdemodhjlbkbeaa
open Go.RowKit
set_option linter.unusedVariables false
/-- a dict that a script has gone over. -/
def runD (D : DS) (f : Nat → Int × ByteArray × Int) : Nat → DS
  | 0 => D
  | i + 1 => chgD (runD D f i) [] (f i).1 (f i).2.1 (f i).2.2
theorem runD_ok {D : DS} (h : DInv D) (f : Nat → Int × ByteArray × Int) (m : Nat) (hf : ∀ i, i < m → (f i).2.1.size ≤ 281474976710656) (hc : cnt D.T1 + cnt D.T2 + m ≤ 4398046511000) : ∀ i, i ≤ m → DInv (runD D f i) ∧ cnt (runD D f i).T1 + cnt (runD D f i).T2 ≤ cnt D.T1 + cnt D.T2 + i
  | 0, _ => ⟨h, by show cnt D.T1 + cnt D.T2 ≤ _; omega⟩
  | i + 1, hi => by
    obtain ⟨q1, q2⟩ := runD_ok h f m hf hc i (by omega)
    obtain ⟨r1, r2⟩ := chgD_ok q1 [] (f i).1 (f i).2.1 (hf i (by omega)) (f i).2.2 (by omega)
    refine ⟨r1, ?_⟩
    show cnt (chgD (runD D f i) [] (f i).1 (f i).2.1 (f i).2.2).T1 + cnt (chgD (runD D f i) [] (f i).1 (f i).2.1 (f i).2.2).T2 ≤ _
    omega
/-- a script as a function. -/
theorem ops_fun {w : World} {g off n : Nat} (h : ∀ i, i < n → ∃ kd k z, OpAt w g off i kd k z) : ∃ f : Nat → Int × ByteArray × Int, ∀ i, i < n → OpAt w g off i (f i).1 (f i).2.1 (f i).2.2 := by
  have : ∀ i, ∃ p : Int × ByteArray × Int, i < n → OpAt w g off i p.1 p.2.1 p.2.2 := fun i => by
    by_cases hi : i < n
    · obtain ⟨kd, k, z, q⟩ := h i hi
      exact ⟨(kd, k, z), fun _ => q⟩
    · exact ⟨(0, ⟨#[]⟩, 0), fun e => absurd e hi⟩
  exact ⟨fun i => Classical.choose (this i), fun i hi => Classical.choose_spec (this i) hi⟩
/-- two dicts in memory that share nothing. -/
structure Two (w wr : World) (d c : Nat) (Fd Fc : List Nat) (Dd Dc : DS) : Prop where
  id : DInv Dd
  ic : DInv Dc
  di : DI wr d Fd Dd
  dj : DI wr c Fc Dc
  fd : ∀ q ∈ Fd, w.heap.size ≤ q
  fc : ∀ q ∈ Fc, w.heap.size ≤ q
  ap : ∀ q ∈ Fd, q ∉ Fc
  below : Below w.heap.size w wr
theorem Two.on {w wr W : World} {d c : Nat} {Fd Fc : List Nat} {Dd Dc : DS} (h : Two w wr d c Fd Fc Dd Dc) (hb : Below wr.heap.size wr W) : Two w W d c Fd Fc Dd Dc :=
  ⟨h.id, h.ic, h.di.on hb, h.dj.on hb, h.fd, h.fc, h.ap, h.below.trans (hb.mono h.below.size)⟩
theorem Two.right {w wr W : World} {d c : Nat} {Fd Fc F : List Nat} {Dd Dc D : DS} (h : Two w wr d c Fd Fc Dd Dc) (hi : DInv D) (hd : DI W c F D) (hm : Moved wr W Fc F) : Two w W d c Fd F Dd D :=
  ⟨h.id, hi, h.di.other hm h.ap, hd, h.fd, hm.ge h.fc h.below.size, fun q hq hn => by
    rcases hm.new q hn with e | e
    · exact h.ap q hq e
    · have := h.di.lt q hq; omega, h.below.trans (hm.below h.fc h.below.size)⟩
theorem Two.left {w wr W : World} {d c : Nat} {Fd Fc F : List Nat} {Dd Dc D : DS} (h : Two w wr d c Fd Fc Dd Dc) (hi : DInv D) (hd : DI W d F D) (hm : Moved wr W Fd F) : Two w W d c F Fc D Dc :=
  ⟨hi, h.ic, hd, h.dj.other hm (fun q hq hn => h.ap q hn hq), hm.ge h.fd h.below.size, h.fc, fun q hq hn => by
    rcases hm.new q hq with e | e
    · exact h.ap q e hn
    · have := h.dj.lt q hn; omega, h.below.trans (hm.below h.fd h.below.size)⟩
theorem Two.grown {w wr W : World} {d c : Nat} {Fd Fc : List Nat} {Dd Dc : DS} (h : Two w wr d c Fd Fc Dd Dc) {v : Value} {n : Nat} {xs : List Value} (hv : wr.ownsRow w.heap.size 9 1 v n xs) (hg : wr.grownBy W v.ownBlock) : Two w W d c Fd Fc Dd Dc :=
  ⟨h.id, h.ic, h.di.grown hv (Or.inl rfl) hg, h.dj.grown hv (Or.inl rfl) hg, h.fd, h.fc, h.ap, h.below.grown hg h.below.size (fun q hq => (World.ownsRow.lt hv q hq).1)⟩
theorem val_one {D : DS} (h : DInv D) {k : ByteArray} {a b : Int} (ha : (k, a) ∈ D.all) (hb : (k, b) ∈ D.all) : a = b := by
  have hn := h.nd
  generalize D.all = l at *
  induction l with
  | nil => cases ha
  | cons x l ih =>
    rw [List.map_cons, List.nodup_cons] at hn
    rcases List.mem_cons.1 ha with e1 | e1 <;> rcases List.mem_cons.1 hb with e2 | e2
    · rw [← e1] at e2; injection e2 with _ e; exact e.symm
    · exact absurd (List.mem_map.2 ⟨_, e2, by rw [← e1]⟩) hn.1
    · exact absurd (List.mem_map.2 ⟨_, e1, by rw [← e2]⟩) hn.1
    · exact ih e1 e2 hn.2
theorem own_lower {w : World} {b b' e size n : Nat} {v : Value} {xs : List Value} (h : w.ownsRow b' e size v n xs) (hb : b ≤ b') : w.ownsRow b e size v n xs := by
  refine ⟨h.1, ?_⟩
  rcases h.2 with q | ⟨a1, a2, a3, a4, a5, a6⟩
  · exact Or.inl q
  · exact Or.inr ⟨a1, a2, a3, a4, by omega, a6⟩
set_option maxHeartbeats 1000000 in
set_option maxRecDepth 100000 in
theorem same_any (v1 v2 : Value) (ss : List ByteArray) (hl : ss.length ≤ 9223372036854775807) (w : World) (h1 : StrRow w v1 ss) (h2 : StrRow w v2 ss) : Calls Try.prog 23 #[v1, v2] w fun e w' => e = .returned (.bool true) ∧ Below w.heap.size w w' := by
  obtain ⟨ad1, cap1, rfl, hc1⟩ := h1
  obtain ⟨ad2, cap2, rfl, hc2⟩ := h2
  have HC1 : Hid _ := hc1
  have HC2 : Hid _ := hc2
  clear hc1 hc2
  go_enter Try.func23, Try.ntmps23
  go_wp2
  go_loopw [5] (fun ci wr => Below w.heap.size w wr ∧ ∃ j : Nat, j ≤ ss.length ∧ ci = .int .i64 (j : Int)) (fun ci _ => ss.length - (intOf ci).toNat)
  case atStart => exact ⟨Below.refl _ _, 0, Nat.zero_le _, rfl⟩
  case round =>
    obtain ⟨hb, j, hj, rfl⟩ := hrel
    have HB : Hid (Below w.heap.size w wr) := hb
    by_cases hlt : j < ss.length
    · obtain ⟨g1, o1, rfl, hcell1⟩ := HC1.out (fun e => by rw [e] at hlt; simp at hlt)
      obtain ⟨g2, o2, rfl, hcell2⟩ := HC2.out (fun e => by rw [e] at hlt; simp at hlt)
      have e1 := cell_on (hcell1 j hlt) hb
      have e2 := cell_on (hcell2 j hlt) hb
      have hz3 : (0 : Int) ≤ (j : Int) := by omega
      have hz4 : (j : Int) < (ss.length : Int) := by omega
      have hsame : (ss[j].toList == ss[j].toList) = true := by simp
      have hjw : IntKind.i64.wrap ((j : Int) + 1) = (j : Int) + 1 := by rw [IntKind.wrap_i64] <;> omega
      clear hcell1 hcell2 hb
      generalize ss[j] = X at *
      go_wp2_with fail
      go_quiet (fail)
      have HB2 : Hid (Below w.heap.size w (wr.drewN nq)) := below_dn HB.out nq
      go_wp2
      go_roundw
      case rel => exact ⟨HB2.out, j + 1, hlt, by simp⟩
      case measure => simp [intOf]; omega
    · clear hb
      go_wp2
      go_returns
      exact ⟨rfl, HB.out⟩
/-- the two dicts, and three rows of texts. -/
structure Rws (w wr : World) (d c : Nat) (Fd Fc : List Nat) (Dd Dc : DS) (va vb vs : Value) (A B S : List ByteArray) : Prop where
  two : Two w wr d c Fd Fc Dd Dc
  oa : wr.ownsRow w.heap.size 9 1 va A.length (strV A)
  ob : wr.ownsRow w.heap.size 9 1 vb B.length (strV B)
  os : wr.ownsRow w.heap.size 9 1 vs S.length (strV S)
  ab : ∀ q, vb.ownBlock = some q → va.ownBlock ≠ some q
  sb : ∀ q, vb.ownBlock = some q → vs.ownBlock ≠ some q
  sa : ∀ q, va.ownBlock = some q → vs.ownBlock ≠ some q
theorem Rws.on {w wr W : World} {d c : Nat} {Fd Fc : List Nat} {Dd Dc : DS} {va vb vs : Value} {A B S : List ByteArray} (h : Rws w wr d c Fd Fc Dd Dc va vb vs A B S) (hb : Below wr.heap.size wr W) : Rws w W d c Fd Fc Dd Dc va vb vs A B S :=
  ⟨h.two.on hb, own_keep h.oa (fun k _ hk => hb.block k hk), own_keep h.ob (fun k _ hk => hb.block k hk), own_keep h.os (fun k _ hk => hb.block k hk), h.ab, h.sb, h.sa⟩
theorem own_lt {w : World} {base e size n : Nat} {v : Value} {xs : List Value} (h : w.ownsRow base e size v n xs) : ∀ q, v.ownBlock = some q → q < w.heap.size := fun q hq => (World.ownsRow.lt h q hq).2
theorem Rws.putA {w wr W : World} {d c : Nat} {Fd Fc : List Nat} {Dd Dc : DS} {va vb vs va' : Value} {A B S A' : List ByteArray} (h : Rws w wr d c Fd Fc Dd Dc va vb vs A B S) (ho : W.ownsRow w.heap.size 9 1 va' A'.length (strV A')) (hg : wr.grownBy W va.ownBlock) (hn : ∀ q, q < wr.heap.size → va.ownBlock ≠ some q → va'.ownBlock ≠ some q) : Rws w W d c Fd Fc Dd Dc va' vb vs A' B S :=
  ⟨h.two.grown h.oa hg, ho, own_block h.ob (fun q hq => hg.block q (own_lt h.ob q hq) (fun e => h.ab q hq e.symm)), own_block h.os (fun q hq => hg.block q (own_lt h.os q hq) (fun e => h.sa q e.symm hq)), fun q hq => hn q (own_lt h.ob q hq) (h.ab q hq), h.sb, fun q hq e => hn q (own_lt h.os q e) (fun e2 => h.sa q e2 e) hq⟩
theorem Rws.putS {w wr W : World} {d c : Nat} {Fd Fc : List Nat} {Dd Dc : DS} {va vb vs vs' : Value} {A B S S' : List ByteArray} (h : Rws w wr d c Fd Fc Dd Dc va vb vs A B S) (ho : W.ownsRow w.heap.size 9 1 vs' S'.length (strV S')) (hg : wr.grownBy W vs.ownBlock) (hn : ∀ q, q < wr.heap.size → vs.ownBlock ≠ some q → vs'.ownBlock ≠ some q) : Rws w W d c Fd Fc Dd Dc va vb vs' A B S' :=
  ⟨h.two.grown h.os hg, own_block h.oa (fun q hq => hg.block q (own_lt h.oa q hq) (fun e => h.sa q hq e.symm)), own_block h.ob (fun q hq => hg.block q (own_lt h.ob q hq) (fun e => h.sb q hq e.symm)), ho, h.ab, fun q hq => hn q (own_lt h.ob q hq) (h.sb q hq), fun q hq => hn q (own_lt h.oa q hq) (h.sa q hq)⟩
theorem row_cells {w : World} {base : Nat} {v : Value} {A : List ByteArray} (h : w.ownsRow base 9 1 v A.length (strV A)) (hne : 0 < A.length) : ∃ K c, v = .slice (some ⟨K, 0, none⟩) A.length c ∧ (∀ t (ht : t < A.length), w.cell? ⟨K, t, none⟩ = some (.string A[t])) ∧ ∀ t, w.frozen? ⟨K, t, none⟩ = false := by
  rcases h.2 with ⟨_, e⟩ | ⟨K, c, cur, rfl, _⟩
  · omega
  · refine ⟨K, c, rfl, fun t ht => ?_, fun t => h.frozenAt t⟩
    rw [h.cellAt t (by omega)]
    unfold strV; rw [List.getElem?_map, List.getElem?_eq_getElem ht]; rfl
theorem strV_set (A : List ByteArray) (j : Nat) (x : ByteArray) : strV (A.set j x) = (strV A).set j (.string x) := by unfold strV; rw [List.map_set]
theorem strV_app (A B : List ByteArray) : strV (A ++ B) = strV A ++ strV B := by unfold strV; rw [List.map_append]
end Go.Proofs.Ytdemodhjlbkbeaa
namespace Go.Proofs.Ytdemodhjlbkbeaa
open Go.RowKit
set_option linter.unusedVariables false
set_option maxHeartbeats 8000000 in
set_option maxRecDepth 100000 in
theorem Apart_walk (seed : Int) (ad1 : Option Addr) (g1 o1 n1 c1 : Nat) (ad2 : Option Addr) (g2 o2 n2 c2 : Nat) (w : World) (hA1 : n1 ≠ 0 → ad1 = some ⟨g1, o1, none⟩) (hA2 : n2 ≠ 0 → ad2 = some ⟨g2, o2, none⟩) (hL : n1 + n2 ≤ 1048576) (hO1 : ∀ i, i < n1 → ∃ kd k n, OpAt w g1 o1 i kd k n) (hO2 : ∀ i, i < n2 → ∃ kd k n, OpAt w g2 o2 i kd k n) :
    Calls Try.prog 8 #[.int .i64 seed, .slice ad1 n1 c1, .slice ad2 n2 c2] w fun e w' => e = .returned (.bool true) ∧ Below w.heap.size w w' := by
  obtain ⟨i9, hi9, hy0, hy1, hy2⟩ := info_parts info9
  obtain ⟨f2, hf2⟩ := ops_fun hO2
  have HWK : Hid _ := works_any
  have HNW : Hid _ := New_any seed w
  have HO1 : Hid _ := hO1
  have HA1 : Hid _ := hA1
  have HO2 : Hid _ := hf2
  have HA2 : Hid _ := hA2
  clear hO1 hA1 hO2 hA2 hf2
  go_enter Try.func8, Try.ntmps8
  go_wp2_with fail
  refine (show Calls _ _ _ _ _ from HNW.out).mono ?_
  rintro e w1 ⟨rfl, hd1, hb1⟩
  obtain ⟨d, hd⟩ : ∃ d, w.heap.size = d := ⟨_, rfl⟩
  have HDG : Hid (w.heap.size ≤ d) := by rw [← hd]; exact Nat.le_refl _
  rw [hd] at hd1 ⊢
  have HD1 : Hid (DI w1 d [d] ⟨seed, [], [], 0⟩) := hd1
  have HB1 : Hid (Below w.heap.size w w1) := hb1
  clear hd1 hb1 hd HNW
  go_wp2_with fail
  refine (show Calls _ _ _ _ _ from HWK.out _).mono ?_
  rintro e w2 ⟨rfl, hb2⟩
  have HD2 : Hid (DI w2 d [d] ⟨seed, [], [], 0⟩) := HD1.out.on hb2
  have HB2 : Hid (Below w.heap.size w w2) := HB1.out.trans (hb2.mono HB1.out.size)
  clear hb2
  go_wp2
  go_loopw [8] (fun ci wr => ∃ (i : Nat) (D : DS) (F : List Nat), i ≤ n1 ∧ ci = .int .i64 (i : Int) ∧ DInv D ∧ DI wr d F D ∧ cnt D.T1 + cnt D.T2 ≤ i ∧ (∀ q ∈ F, w.heap.size ≤ q) ∧ Below w.heap.size w wr) (fun ci _ => n1 - (intOf ci).toNat)
  case atStart => exact ⟨0, _, [d], Nat.zero_le _, rfl, newD_ok seed, HD2.out, by simp [cnt], by simpa using HDG.out, HB2.out⟩
  case round =>
    obtain ⟨i, D, F, hi, rfl, hI, hdi, hcn, hF, hbr⟩ := hrel
    have HI : Hid (DInv D) := hI
    have HDI : Hid (DI wr d F D) := hdi
    have HF : Hid (∀ q ∈ F, w.heap.size ≤ q) := hF
    have HBR : Hid (Below w.heap.size w wr) := hbr
    clear hI hdi hF hbr
    by_cases hlt : i < n1
    · have had := HA1.out (by omega)
      subst had
      obtain ⟨kd, k, n, hop⟩ := HO1.out i hlt
      have hop2 := hop.under HBR.out hop.lt
      have e0 := hop2.a
      have e1 := hop2.b
      have e2 := hop2.c
      have hks := hop2.k
      have HCH : Hid _ := changed_any d F D HI.out (.slice none 0 0) [] (by simp) kd k (by omega) n (by omega) wr (StrRow.nil wr) (fun W _ => StrRow.nil W) HDI.out
      have HCK : Hid _ := chgD_ok HI.out [] kd k (by omega) n (by omega)
      have hz3 : (0 : Int) ≤ (i : Int) := by omega
      have hz4 : (i : Int) < (n1 : Int) := by omega
      clear hop hop2
      go_wp2_with fail
      refine (show Calls _ _ _ _ _ from HCH.out).mono ?_
      rintro e w3 ⟨rfl, F3, hd3, hm3⟩
      obtain ⟨k1, k2⟩ := HCK.out
      have HF3 : Hid (∀ q ∈ F3, w.heap.size ≤ q) := hm3.ge HF.out HBR.out.size
      have HB3 : Hid (Below w.heap.size w w3) := HBR.out.trans (hm3.below HF.out HBR.out.size)
      have HI3 : Hid _ := k1
      clear e0 e1 e2 hm3 k1 HCH HCK
      generalize chgD D [] kd k n = S at *
      have HD3 : Hid (DI w3 d F3 S) := hd3
      clear hd3
      go_wp2
      go_roundw
      case rel => exact ⟨i + 1, S, F3, hlt, by simp, HI3.out, HD3.out, by omega, HF3.out, HB3.out⟩
      case measure => simp [intOf]; omega
    · have hie : i = n1 := by omega
      subst hie
      have HCL : Hid _ := Clone_any d F D HI.out (by omega) wr HDI.out
      clear hlt hi
      go_wp2_with fail
      refine (show Calls _ _ _ _ _ from HCL.out).mono ?_
      rintro e w3 ⟨c, Fc, rfl, hdc, hfc, hb3⟩
      have HT3 : Hid (Two w w3 d c F Fc D D) := ⟨HI.out, HI.out, HDI.out.on hb3, hdc, HF.out, fun q hq => Nat.le_trans HBR.out.size (hfc q hq), fun q hq hn => by have := HDI.out.lt q hq; have := hfc q hn; omega, HBR.out.trans (hb3.mono HBR.out.size)⟩
      have HKY : Hid _ := Keys_any d F D HI.out (by omega) w3 HT3.out.di
      clear hdc hfc hb3 HCL
      go_wp2_with fail
      refine (show Calls _ _ _ _ _ from HKY.out).mono ?_
      rintro e w4 ⟨vw, rfl, hwn, hwo, hb4⟩
      obtain ⟨K, hK⟩ : ∃ K, K = (keysS D).map strB := ⟨_, rfl⟩
      have hKl : K.length = (keysS D).length := by rw [hK, List.length_map]
      have hKb : K.length ≤ 1048576 := by rw [hKl, keysS_len]; omega
      have HKEY : Hid (∀ x W, DI W d x D → Calls Try.prog 15 #[.pointer (some ⟨d, 0, none⟩)] W fun e w' => ∃ v, e = .returned v ∧ w'.ownsRow W.heap.size 9 1 v K.length (strV K) ∧ Below W.heap.size W w') := fun x W hW => by
        refine (Keys_any d x D HI.out (by omega) W hW).mono ?_
        rintro e w' ⟨v, rfl, _, ho, hb⟩
        refine ⟨v, rfl, ?_, hb⟩
        rw [hK, ← enc_str, List.length_map]; exact ho
      have HW4 : Hid (w4.ownsRow w.heap.size 9 1 vw K.length (strV K)) := by
        show World.ownsRow _ _ _ _ _ _ _
        rw [hK, ← enc_str, List.length_map]
        exact own_lower hwo HT3.out.below.size
      have HT4 : Hid (Two w w4 d c F Fc D D) := HT3.out.on hb4
      obtain ⟨PW, kW, hkf⟩ := own_form HW4.out
      subst hkf
      clear hwn hwo hb4 hK hKl HKY HT3
      have HTB := fun x W hW => Tables_all d x D W hW
      obtain ⟨ta, tb, tc, htab⟩ : ∃ ta tb tc : Int, tabT D = .tuple #[.int .i64 ta, .int .i64 tb, .int .i64 tc] := by
        by_cases hm : D.T2 = []
        · exact ⟨_, _, _, tabT_still hm⟩
        · exact ⟨_, _, _, tabT_move hm⟩
      rw [htab] at HTB
      have HTBH : Hid _ := HTB
      clear HTB htab
      go_wp2_with fail
      refine (show Calls _ _ _ _ _ from HTBH.out _ _ HT4.out.di).mono ?_
      rintro e w5 ⟨rfl, kq, hkq⟩
      have hb5 : Below w4.heap.size w4 w5 := by rw [hkq]; exact below_dn (Below.refl _ _) kq
      have HT5 : Hid (Two w w5 d c F Fc D D) := HT4.out.on hb5
      have HW5 : Hid (w5.ownsRow w.heap.size 9 1 (.slice PW K.length kW) K.length (strV K)) := own_keep HW4.out (fun k _ hk => hb5.block k hk)
      clear hb5 hkq HW4 HT4
      have HRUN : Hid (∀ j, j ≤ n2 → DInv (runD D f2 j) ∧ cnt (runD D f2 j).T1 + cnt (runD D f2 j).T2 ≤ cnt D.T1 + cnt D.T2 + j) := runD_ok HI.out f2 n2 (fun j hj => by have := (HO2.out j hj).k; omega) (by omega)
      go_wp2
      go_loopw [14] (fun ci wx => ∃ (j : Nat) (FC : List Nat), j ≤ n2 ∧ ci = .int .i64 (j : Int) ∧ Two w wx d c F FC D (runD D f2 j) ∧ wx.ownsRow w.heap.size 9 1 (.slice PW K.length kW) K.length (strV K)) (fun ci _ => n2 - (intOf ci).toNat)
      case atStart => exact ⟨0, Fc, Nat.zero_le _, rfl, HT5.out, HW5.out⟩
      case round =>
        obtain ⟨j, FC, hj, rfl, hT, hWo⟩ := hrel
        have HT : Hid (Two w wr d c F FC D (runD D f2 j)) := hT
        have HW : Hid (wr.ownsRow w.heap.size 9 1 (.slice PW K.length kW) K.length (strV K)) := hWo
        clear hT hWo
        by_cases hlt : j < n2
        · have had := HA2.out (by omega)
          subst had
          have hop := HO2.out j hlt
          have hop2 := hop.under HT.out.below hop.lt
          have e0 := hop2.a
          have e1 := hop2.b
          have e2 := hop2.c
          have hks := hop2.k
          have hcnj := (HRUN.out j hj).2
          have HCH : Hid (Calls Try.prog 18 #[.pointer (some ⟨c, 0, none⟩), .slice none 0 0, .agg #[.int .i64 (f2 j).1, .string (f2 j).2.1, .int .i64 (f2 j).2.2]] wr fun e w' => e = .returned (.tuple #[]) ∧ ∃ F', DI w' c F' (runD D f2 (j + 1)) ∧ Moved wr w' FC F') := changed_any c FC (runD D f2 j) (HRUN.out j hj).1 (.slice none 0 0) [] (by simp) (f2 j).1 (f2 j).2.1 (by omega) (f2 j).2.2 (by omega) wr (StrRow.nil wr) (fun W _ => StrRow.nil W) HT.out.dj
          have hz3 : (0 : Int) ≤ (j : Int) := by omega
          have hz4 : (j : Int) < (n2 : Int) := by omega
          clear hop hop2
          generalize (f2 j).1 = kd at *
          generalize (f2 j).2.1 = ky at *
          generalize (f2 j).2.2 = kn at *
          go_wp2_with fail
          refine (show Calls _ _ _ _ _ from HCH.out).mono ?_
          rintro e w6 ⟨rfl, F6, hd6, hm6⟩
          have HT6 : Hid (Two w w6 d c F F6 D (runD D f2 (j + 1))) := HT.out.right (HRUN.out (j + 1) hlt).1 hd6 hm6
          have HW6 : Hid (w6.ownsRow w.heap.size 9 1 (.slice PW K.length kW) K.length (strV K)) := own_moved HT.out.dj hm6 HW.out (Or.inl rfl)
          clear e0 e1 e2 hd6 hm6 HCH
          go_wp2
          go_roundw
          case rel => exact ⟨j + 1, F6, hlt, by simp, HT6.out, HW6.out⟩
          case measure => simp [intOf]; omega
        · have hje : j = n2 := by omega
          subst hje
          clear hlt hj
          go_wp2_with fail
          refine (show Calls _ _ _ _ _ from HTBH.out _ _ HT.out.di).mono ?_
          rintro e w6 ⟨rfl, kq, hkq⟩
          have hb6 : Below wr.heap.size wr w6 := by rw [hkq]; exact below_dn (Below.refl _ _) kq
          have HT6 : Hid (Two w w6 d c F FC D (runD D f2 j)) := HT.out.on hb6
          have HW6 : Hid (w6.ownsRow w.heap.size 9 1 (.slice PW K.length kW) K.length (strV K)) := own_keep HW.out (fun k _ hk => hb6.block k hk)
          clear hb6 hkq
          go_wp2_with fail
          refine (show Calls _ _ _ _ _ from HKEY.out _ _ HT6.out.di).mono ?_
          rintro e w7 ⟨v7, rfl, ho7, hb7⟩
          have HR7 : Hid (StrRow w7 v7 K) := StrRow.of_vals ho7 rfl
          have HT7 : Hid (Two w w7 d c F FC D (runD D f2 j)) := HT6.out.on hb7
          have HW7 : Hid (StrRow w7 (.slice PW K.length kW) K) := StrRow.of_vals (own_keep HW6.out (fun k _ hk => hb7.block k hk)) rfl
          obtain ⟨P7, k7, hkf⟩ := own_form ho7
          subst hkf
          clear ho7 hb7
          have HSM : Hid _ := same_any (.slice P7 K.length k7) (.slice PW K.length kW) K (by omega) w7 HR7.out HW7.out
          go_wp2_with fail
          refine (show Calls _ _ _ _ _ from HSM.out).mono ?_
          rintro e w8 ⟨rfl, hb8⟩
          have HT8 : Hid (Two w w8 d c F FC D (runD D f2 j)) := HT7.out.on hb8
          clear hb8 HSM HR7 HW7 HT7 HT6 HW6 HW HT
          go_wp2
          go_loopw [18] (fun ci wx => ∃ (t : Nat) (FD : List Nat), t ≤ j ∧ ci = .int .i64 (t : Int) ∧ Two w wx d c FD FC (runD D f2 t) (runD D f2 j)) (fun ci _ => j - (intOf ci).toNat)
          case atStart => exact ⟨0, F, Nat.zero_le _, rfl, HT8.out⟩
          case round =>
            obtain ⟨t, FD, ht, rfl, hT⟩ := hrel
            have HT : Hid (Two w wr d c FD FC (runD D f2 t) (runD D f2 j)) := hT
            clear hT
            by_cases hlt : t < j
            · have had := HA2.out (by omega)
              subst had
              have hop := HO2.out t hlt
              have hop2 := hop.under HT.out.below hop.lt
              have e0 := hop2.a
              have e1 := hop2.b
              have e2 := hop2.c
              have hks := hop2.k
              have hcnj := (HRUN.out t ht).2
              have HCH : Hid (Calls Try.prog 18 #[.pointer (some ⟨d, 0, none⟩), .slice none 0 0, .agg #[.int .i64 (f2 t).1, .string (f2 t).2.1, .int .i64 (f2 t).2.2]] wr fun e w' => e = .returned (.tuple #[]) ∧ ∃ F', DI w' d F' (runD D f2 (t + 1)) ∧ Moved wr w' FD F') := changed_any d FD (runD D f2 t) (HRUN.out t ht).1 (.slice none 0 0) [] (by simp) (f2 t).1 (f2 t).2.1 (by omega) (f2 t).2.2 (by omega) wr (StrRow.nil wr) (fun W _ => StrRow.nil W) HT.out.di
              have hz3 : (0 : Int) ≤ (t : Int) := by omega
              have hz4 : (t : Int) < (j : Int) := by omega
              clear hop hop2
              generalize (f2 t).1 = kd at *
              generalize (f2 t).2.1 = ky at *
              generalize (f2 t).2.2 = kn at *
              go_wp2_with fail
              refine (show Calls _ _ _ _ _ from HCH.out).mono ?_
              rintro e w9 ⟨rfl, F9, hd9, hm9⟩
              have HT9 : Hid (Two w w9 d c F9 FC (runD D f2 (t + 1)) (runD D f2 j)) := HT.out.left (HRUN.out (t + 1) hlt).1 hd9 hm9
              clear e0 e1 e2 hd9 hm9 HCH
              go_wp2
              go_roundw
              case rel => exact ⟨t + 1, F9, hlt, by simp, HT9.out⟩
              case measure => simp [intOf]; omega
            · have hte : t = j := by omega
              subst hte
              have hcE := (HRUN.out t (Nat.le_refl _)).2
              have HIE : Hid _ := (HRUN.out t (Nat.le_refl _)).1
              clear hlt ht HRUN HKEY HTBH
              generalize runD D f2 t = E at *
              have HEB : Hid (cnt E.T1 + cnt E.T2 ≤ 1048576) := by show _ ≤ _; omega
              obtain ⟨A, hA⟩ : ∃ A, A = (keysS E).map strB := ⟨_, rfl⟩
              have hAb : A.length ≤ 1048576 := by rw [hA, List.length_map, keysS_len]; exact HEB.out
              have HKE : Hid (∀ g x W, DI W g x E → Calls Try.prog 15 #[.pointer (some ⟨g, 0, none⟩)] W fun e w' => ∃ v, e = .returned v ∧ w'.ownsRow W.heap.size 9 1 v A.length (strV A) ∧ Below W.heap.size W w') := fun g x W hW => by
                refine (Keys_any g x E HIE.out (by have := HEB.out; omega) W hW).mono ?_
                rintro e w' ⟨v, rfl, _, ho, hb⟩
                refine ⟨v, rfl, ?_, hb⟩
                rw [hA, ← enc_str, List.length_map]; exact ho
              have HAM : Hid (∀ x ∈ A, x ∈ keysOf E) := fun x hx => (keysS_str E x).1 (hA ▸ hx)
              clear hA
              go_wp2_with fail
              refine (show Calls _ _ _ _ _ from HKE.out _ _ _ HT.out.di).mono ?_
              rintro e w9 ⟨va, rfl, hoa, hb9⟩
              have HT9 : Hid (Two w w9 d c FD FC E E) := HT.out.on hb9
              have HOA : Hid (w9.ownsRow wr.heap.size 9 1 va A.length (strV A)) := hoa
              have HSZ : Hid (w.heap.size ≤ wr.heap.size) := HT.out.below.size
              have HS9 : Hid (wr.heap.size ≤ w9.heap.size) := hb9.size
              obtain ⟨Pa, ka, hkf⟩ := own_form hoa
              subst hkf
              clear hoa hb9
              go_wp2_with fail
              refine (show Calls _ _ _ _ _ from HKE.out _ _ _ HT9.out.dj).mono ?_
              rintro e w10 ⟨vb, rfl, hob, hb10⟩
              have HT10 : Hid (Two w w10 d c FD FC E E) := HT9.out.on hb10
              have HSC : Hid _ := Scan_covS d FD E HIE.out (by have := HEB.out; omega) [] [] 0 (by omega) (fun x hx => by cases hx) (fun x hx => by cases hx) 1000000 (by omega) w10 HT10.out.di
              have HOA10 : Hid (w10.ownsRow wr.heap.size 9 1 (.slice Pa A.length ka) A.length (strV A)) := own_keep HOA.out (fun k _ hk => hb10.block k hk)
              have HOB10 : Hid (w10.ownsRow w9.heap.size 9 1 vb A.length (strV A)) := hob
              have HLA : Hid (∀ q, (Value.slice Pa A.length ka).ownBlock = some q → q < w9.heap.size) := own_lt HOA.out
              have HSZ9 : Hid (wr.heap.size ≤ w9.heap.size ∧ w9.heap.size ≤ w10.heap.size) := ⟨HS9.out, hb10.size⟩
              obtain ⟨Pb, kb, hkf⟩ := own_form hob
              subst hkf
              clear hob hb10
              go_wp2_with fail
              refine (show Calls _ _ _ _ _ from HSC.out).mono ?_
              rintro e w11 ⟨M, vs, c11, rfl, hos, hb11, hML, hc11, _, _⟩
              have HR11 : Hid (Rws w w11 d c FD FC E E (.slice Pa A.length ka) (.slice Pb A.length kb) vs A A (M.map (·.1))) := by
                have z1 := HSZ.out
                have z2 := HSZ9.out
                refine ⟨HT10.out.on hb11, own_lower (own_keep HOA10.out (fun k _ hk => hb11.block k hk)) z1, own_lower (own_keep HOB10.out (fun k _ hk => hb11.block k hk)) (by omega), ?_, fun q hq e => ?_, fun q hq e => ?_, fun q hq e => ?_⟩
                · rw [← keyV_str, List.length_map]; exact own_lower hos (by omega)
                · have h1 := HLA.out q e
                  have h2 := (World.ownsRow.lt HOB10.out q hq).1
                  omega
                · have h1 := (World.ownsRow.lt hos q e).1
                  have h2 := (World.ownsRow.lt HOB10.out q hq).2
                  omega
                · have h1 := (World.ownsRow.lt hos q e).1
                  have h2 := HLA.out q hq
                  omega
              have hSl : (M.map (·.1)).length ≤ 1048576 := by rw [List.length_map]; have := HEB.out; omega
              obtain ⟨Ps, ks, hkf⟩ := own_form hos
              subst hkf
              have hmm : M.length = (M.map (·.1)).length := by rw [List.length_map]
              rw [hmm] at HR11 ⊢
              clear hos hb11 hML hmm HSC HOA HOA10 HOB10 HLA HT9 HT10 HT
              generalize M.map (·.1) = S at *
              have HSM : Hid _ := same_any (.slice Pa A.length ka) (.slice Pb A.length kb) A (by omega) w11 (StrRow.of_vals HR11.out.oa rfl) (StrRow.of_vals HR11.out.ob rfl)
              go_wp2_with fail
              refine (show Calls _ _ _ _ _ from HSM.out).mono ?_
              rintro e w12 ⟨rfl, hb12⟩
              have HR12 : Hid (Rws w w12 d c FD FC E E (.slice Pa A.length ka) (.slice Pb A.length kb) (.slice Ps S.length ks) A A S) := HR11.out.on hb12
              have HLD : Hid _ := Len_all d FD E (by have := HEB.out; omega) w12 HR12.out.two.di
              clear hb12 HSM HR11
              obtain ⟨NE, hNE⟩ : ∃ NE, cnt E.T1 + cnt E.T2 = NE := ⟨_, rfl⟩
              rw [hNE] at HLD
              go_wp2_with fail
              refine (show Calls _ _ _ _ _ from HLD.out).mono ?_
              rintro e w13 ⟨rfl, kq, hkq⟩
              have hb13 : Below w12.heap.size w12 w13 := by rw [hkq]; exact below_dn (Below.refl _ _) kq
              have HR13 : Hid (Rws w w13 d c FD FC E E (.slice Pa A.length ka) (.slice Pb A.length kb) (.slice Ps S.length ks) A A S) := HR12.out.on hb13
              have HLC : Hid _ := Len_all c FC E (by have := HEB.out; omega) w13 HR13.out.two.dj
              rw [hNE] at HLC
              clear hb13 hkq HLD HR12 hNE
              go_wp2_with fail
              refine (show Calls _ _ _ _ _ from HLC.out).mono ?_
              rintro e w14 ⟨rfl, kq, hkq⟩
              have hb14 : Below w13.heap.size w13 w14 := by rw [hkq]; exact below_dn (Below.refl _ _) kq
              have HR14 : Hid (Rws w w14 d c FD FC E E (.slice Pa A.length ka) (.slice Pb A.length kb) (.slice Ps S.length ks) A A S) := HR13.out.on hb14
              clear hb14 hkq HLC HR13
              go_wp2
              go_loopw [23] (fun ci wx => ∃ (u : Nat), u ≤ A.length ∧ ci = .int .i64 (u : Int) ∧ Rws w wx d c FD FC E E (.slice Pa A.length ka) (.slice Pb A.length kb) (.slice Ps S.length ks) A A S) (fun ci _ => A.length - (intOf ci).toNat)
              case atStart => exact ⟨0, Nat.zero_le _, rfl, HR14.out⟩
              case round =>
                obtain ⟨u, hu, rfl, hR⟩ := hrel
                have HR : Hid (Rws w wr d c FD FC E E (.slice Pa A.length ka) (.slice Pb A.length kb) (.slice Ps S.length ks) A A S) := hR
                clear hR
                by_cases hul : u < A.length
                · obtain ⟨KA, kc, hck, hcells, _⟩ := row_cells HR.out.oa (by omega)
                  injection hck with hk1 hk2 hk3
                  subst hk1; subst hk3
                  have c1 := hcells u hul
                  have hmem : A[u] ∈ keysOf E := HAM.out _ (List.getElem_mem hul)
                  obtain ⟨⟨kx, vx⟩, hmD, hkx⟩ := List.mem_map.1 hmem
                  have hks : A[u].size ≤ 281474976710656 := by rw [← hkx]; exact HIE.out.keys _ hmD
                  have HGD : Hid _ := Get_yes d FD E HIE.out A[u] hks (by have := HEB.out; omega) ((all_keys HIE.out _).2 hmem) wr HR.out.two.di
                  have HCA : Hid (∀ W, Below wr.heap.size wr W → W.cell? ⟨KA, u, none⟩ = some (.string A[u])) := fun W hW => cell_on c1 hW
                  have HGC : Hid (∀ W, Below wr.heap.size wr W → Calls Try.prog 17 #[.pointer (some ⟨c, 0, none⟩), .string A[u]] W fun e w' => (∃ v, e = .returned (.tuple #[.int .i64 v, .bool true]) ∧ (A[u], v) ∈ E.all) ∧ Below W.heap.size W w') := fun W hW => Get_yes c FC E HIE.out A[u] hks (by have := HEB.out; omega) ((all_keys HIE.out _).2 hmem) W (HR.out.two.dj.on hW)
                  have HON : Hid (∀ v v', (A[u], v) ∈ E.all → (A[u], v') ∈ E.all → v = v') := fun v v' => val_one HIE.out
                  have hz3 : (0 : Int) ≤ (u : Int) := by omega
                  have hz4 : (u : Int) < (A.length : Int) := by omega
                  have huw : IntKind.i64.wrap ((u : Int) + 1) = (u : Int) + 1 := by rw [IntKind.wrap_i64] <;> omega
                  clear hcells hk2 hmem hmD hks hkx
                  generalize A[u] = X at *
                  go_wp2_with fail
                  refine (show Calls _ _ _ _ _ from HGD.out).mono ?_
                  rintro e w15 ⟨⟨v, rfl, hv⟩, hb15⟩
                  have c2 := HCA.out w15 hb15
                  have HR15 : Hid _ := HR.out.on hb15
                  have HGC15 : Hid _ := HGC.out w15 hb15
                  have HV : Hid _ := hv
                  clear hv hb15 c1 HGD
                  go_wp2_with fail
                  refine (show Calls _ _ _ _ _ from HGC15.out).mono ?_
                  rintro e w16 ⟨⟨v', rfl, hv'⟩, hb16⟩
                  have hvv := HON.out v v' HV.out hv'
                  subst hvv
                  have HR16 : Hid _ := HR15.out.on hb16
                  clear hv' hb16 c2 HGC15
                  go_wp2
                  go_roundw
                  case rel => exact ⟨u + 1, hul, by simp, HR16.out⟩
                  case measure => simp [intOf]; omega
                · have hue : (u : Int) = (A.length : Int) := by omega
                  have hA0 : ¬ ((u : Int) < (A.length : Int)) := by omega
                  go_wp2
                  go_loopw [28] (fun ci wx => ∃ (x : Nat) (A' : List ByteArray), x ≤ A.length ∧ ci = .int .i64 (x : Int) ∧ A'.length = A.length ∧ Rws w wx d c FD FC E E (.slice Pa A.length ka) (.slice Pb A.length kb) (.slice Ps S.length ks) A' A S) (fun ci _ => A.length - (intOf ci).toNat)
                  case atStart => exact ⟨0, A, Nat.zero_le _, rfl, rfl, HR.out⟩
                  case round =>
                    obtain ⟨x, A', hx, rfl, hAl, hR⟩ := hrel
                    have HR : Hid (Rws w wr d c FD FC E E (.slice Pa A.length ka) (.slice Pb A.length kb) (.slice Ps S.length ks) A' A S) := hR
                    clear hR
                    by_cases hxl : x < A.length
                    · obtain ⟨KA, kc, hck, hcells, hfr⟩ := row_cells HR.out.oa (by omega)
                      injection hck with hk1 hk2 hk3
                      subst hk1; subst hk3
                      have c1 := hcells x (by omega)
                      have c2 := hfr x
                      have hz3 : (0 : Int) ≤ (x : Int) := by omega
                      have hz4 : (x : Int) < (A.length : Int) := by omega
                      have hxw : IntKind.i64.wrap ((x : Int) + 1) = (x : Int) + 1 := by rw [IntKind.wrap_i64] <;> omega
                      have HR2 : Hid (Rws w (wr.setCell ⟨KA, x, none⟩ (.string ⟨#[49]⟩)) d c FD FC E E (.slice (some ⟨KA, 0, none⟩) A.length ka) (.slice Pb A.length kb) (.slice Ps S.length ks) (A'.set x ⟨#[49]⟩) A S) := by
                        have ho := HR.out.oa
                        rw [hAl] at ho
                        obtain ⟨s1, s2⟩ := ho.stored x (.string ⟨#[49]⟩)
                        refine HR.out.putA ?_ s2 (fun q _ h => h)
                        rw [strV_set, List.length_set, hAl]; exact s1
                      have HL2 : Hid ((A'.set x ⟨#[49]⟩).length = A.length) := by show _ = _; rw [List.length_set]; exact hAl
                      clear hcells hfr hk2
                      generalize A'[x] = X at *
                      generalize A'.set x ⟨#[49]⟩ = A2 at *
                      go_wp2
                      go_roundw
                      case rel => exact ⟨x + 1, A2, hxl, by simp, HL2.out, by simpa using HR2.out⟩
                      case measure => simp [intOf]; omega
                    · have hxe : ¬ ((x : Int) < (A.length : Int)) := by omega
                      go_wp2
                      go_loopw [29] (fun ci wx => ∃ (y : Nat) (S' : List ByteArray), y ≤ S.length ∧ ci = .int .i64 (y : Int) ∧ S'.length = S.length ∧ Rws w wx d c FD FC E E (.slice Pa A.length ka) (.slice Pb A.length kb) (.slice Ps S.length ks) A' A S') (fun ci _ => S.length - (intOf ci).toNat)
                      case atStart => exact ⟨0, S, Nat.zero_le _, rfl, rfl, HR.out⟩
                      case round =>
                        obtain ⟨y, S', hy, rfl, hSl2, hR⟩ := hrel
                        have HR : Hid (Rws w wr d c FD FC E E (.slice Pa A.length ka) (.slice Pb A.length kb) (.slice Ps S.length ks) A' A S') := hR
                        clear hR
                        by_cases hyl : y < S.length
                        · obtain ⟨KS, kc, hck, hcells, hfr⟩ := row_cells HR.out.os (by omega)
                          injection hck with hk1 hk2 hk3
                          subst hk1; subst hk3
                          have c1 := hcells y (by omega)
                          have c2 := hfr y
                          have hz3 : (0 : Int) ≤ (y : Int) := by omega
                          have hz4 : (y : Int) < (S.length : Int) := by omega
                          have hyw : IntKind.i64.wrap ((y : Int) + 1) = (y : Int) + 1 := by rw [IntKind.wrap_i64] <;> omega
                          have HR2 : Hid (Rws w (wr.setCell ⟨KS, y, none⟩ (.string ⟨#[50]⟩)) d c FD FC E E (.slice Pa A.length ka) (.slice Pb A.length kb) (.slice (some ⟨KS, 0, none⟩) S.length ks) A' A (S'.set y ⟨#[50]⟩)) := by
                            have ho := HR.out.os
                            rw [hSl2] at ho
                            obtain ⟨s1, s2⟩ := ho.stored y (.string ⟨#[50]⟩)
                            refine HR.out.putS ?_ s2 (fun q _ h => h)
                            rw [strV_set, List.length_set, hSl2]; exact s1
                          have HL2 : Hid ((S'.set y ⟨#[50]⟩).length = S.length) := by show _ = _; rw [List.length_set]; exact hSl2
                          clear hcells hfr hk2
                          generalize S'[y] = X at *
                          generalize S'.set y ⟨#[50]⟩ = S2 at *
                          go_wp2
                          go_roundw
                          case rel => exact ⟨y + 1, S2, hyl, by simp, HL2.out, by simpa using HR2.out⟩
                          case measure => simp [intOf]; omega
                        · have hye : ¬ ((y : Int) < (S.length : Int)) := by omega
                          go_upto_region 43 with fail
                          have HSZA3 : Hid (w.heap.size ≤ (wr.alloc (.cells #[.string ⟨#[51]⟩, .string ⟨#[51]⟩, .string ⟨#[51]⟩] 9)).heap.size) := Nat.le_trans HR.out.two.below.size (by simp)
                          have HCA3 : Hid ((wr.alloc (.cells #[.string ⟨#[51]⟩, .string ⟨#[51]⟩, .string ⟨#[51]⟩] 9)).heap[wr.heap.size]? = some (.cells #[.string ⟨#[51]⟩, .string ⟨#[51]⟩, .string ⟨#[51]⟩] 9)) := one_alloc wr _
                          have hba : Below wr.heap.size wr (wr.alloc (.cells #[.string ⟨#[51]⟩, .string ⟨#[51]⟩, .string ⟨#[51]⟩] 9)) := (Below.refl _ _).alloc (Nat.le_refl _) _
                          have HRA3 : Hid _ := HR.out.on hba
                          have HOA3 : Hid ((wr.alloc (.cells #[.string ⟨#[51]⟩, .string ⟨#[51]⟩, .string ⟨#[51]⟩] 9)).ownsRow w.heap.size 9 1 (.slice Pa A.length ka) A.length (strV A')) := by
                            have q := HRA3.out.oa
                            rw [hAl] at q; exact q
                          clear hba
                          go_wp2_with (at_builtin; go_must (refine wpList_append_own_at _ rfl _ _ 28 rfl w.heap.size 9 i9 (.string ⟨#[]⟩) 1 16 Try.underlying28 hi9 hy0 hy1 hy2 rfl (by decide) _ _ _ rfl HOA3.out ⟨wr.heap.size, 0, none⟩ 3 3 [.string ⟨#[51]⟩, .string ⟨#[51]⟩, .string ⟨#[51]⟩] rfl rfl ?t0A3 ?t1A3 ?t2A3 ?t3A3 HSZA3.out ?_))
                          case t1A3 => first | rfl | (intro u hu; simp at hu; subst hu; rfl)
                          case t2A3 => unfold maxLen; omega
                          case t3A3 => omega
                          intro vA3 w20 hoA3 hgA3 hnA3 haA3
                          have hGA3 : Grew (wr.alloc (.cells #[.string ⟨#[51]⟩, .string ⟨#[51]⟩, .string ⟨#[51]⟩] 9)) w20 (.slice Pa A.length ka) vA3 := ⟨hgA3, by rcases haA3 with h | h; exact Or.inl h; exact Or.inr ⟨_, h, by simp⟩, fun _ => by first | exact hnA3 | (intro e; have := hnA3.1 e; simp at this)⟩
                          have HQA3 : Hid _ := HRA3.out.putA (A' := A' ++ [⟨#[51]⟩, ⟨#[51]⟩, ⟨#[51]⟩]) (va' := vA3) (W := w20) (by rw [strV_app, List.length_append, hAl]; exact hoA3) hgA3 (fun q h1 h2 => hGA3.ne_own h1 h2)
                          obtain ⟨PA3, kA3, hkfA3⟩ := own_form hoA3
                          subst hkfA3
                          clear hoA3 hgA3 hnA3 haA3 hGA3
                          go_upto_region 44 with fail
                          have HSZS4 : Hid (w.heap.size ≤ (w20.alloc (.cells #[.string ⟨#[52]⟩, .string ⟨#[52]⟩, .string ⟨#[52]⟩] 9)).heap.size) := Nat.le_trans HQA3.out.two.below.size (by simp)
                          have HCS4 : Hid ((w20.alloc (.cells #[.string ⟨#[52]⟩, .string ⟨#[52]⟩, .string ⟨#[52]⟩] 9)).heap[w20.heap.size]? = some (.cells #[.string ⟨#[52]⟩, .string ⟨#[52]⟩, .string ⟨#[52]⟩] 9)) := one_alloc w20 _
                          have hba : Below w20.heap.size w20 (w20.alloc (.cells #[.string ⟨#[52]⟩, .string ⟨#[52]⟩, .string ⟨#[52]⟩] 9)) := (Below.refl _ _).alloc (Nat.le_refl _) _
                          have HRS4 : Hid _ := HQA3.out.on hba
                          have HOS4 : Hid ((w20.alloc (.cells #[.string ⟨#[52]⟩, .string ⟨#[52]⟩, .string ⟨#[52]⟩] 9)).ownsRow w.heap.size 9 1 (.slice Ps S.length ks) S.length (strV S')) := by
                            have q := HRS4.out.os
                            rw [hSl2] at q; exact q
                          clear hba
                          go_wp2_with (at_builtin; go_must (refine wpList_append_own_at _ rfl _ _ 28 rfl w.heap.size 9 i9 (.string ⟨#[]⟩) 1 16 Try.underlying28 hi9 hy0 hy1 hy2 rfl (by decide) _ _ _ rfl HOS4.out ⟨w20.heap.size, 0, none⟩ 3 3 [.string ⟨#[52]⟩, .string ⟨#[52]⟩, .string ⟨#[52]⟩] rfl rfl ?t0S4 ?t1S4 ?t2S4 ?t3S4 HSZS4.out ?_))
                          case t0S4 =>
                            intro q u hq
                            match q, hq with
                            | 0, hq => simp at hq; subst hq; exact (cell_of_row _ _ _ _ _ _ HCS4.out).trans rfl
                            | 1, hq => simp at hq; subst hq; exact (cell_of_row _ _ _ _ _ _ HCS4.out).trans rfl
                            | 2, hq => simp at hq; subst hq; exact (cell_of_row _ _ _ _ _ _ HCS4.out).trans rfl
                          case t1S4 => first | rfl | (intro u hu; simp at hu; subst hu; rfl)
                          case t2S4 => unfold maxLen; omega
                          case t3S4 => omega
                          intro vS4 w21 hoS4 hgS4 hnS4 haS4
                          have hGS4 : Grew (w20.alloc (.cells #[.string ⟨#[52]⟩, .string ⟨#[52]⟩, .string ⟨#[52]⟩] 9)) w21 (.slice Ps S.length ks) vS4 := ⟨hgS4, by rcases haS4 with h | h; exact Or.inl h; exact Or.inr ⟨_, h, by simp⟩, fun _ => by first | exact hnS4 | (intro e; have := hnS4.1 e; simp at this)⟩
                          have HQS4 : Hid _ := HRS4.out.putS (S' := S' ++ [⟨#[52]⟩, ⟨#[52]⟩, ⟨#[52]⟩]) (vs' := vS4) (W := w21) (by rw [strV_app, List.length_append, hSl2]; exact hoS4) hgS4 (fun q h1 h2 => hGS4.ne_own h1 h2)
                          obtain ⟨PS4, kS4, hkfS4⟩ := own_form hoS4
                          subst hkfS4
                          clear hoS4 hgS4 hnS4 haS4 hGS4
                          go_wp2_with fail
                          refine (show Calls _ _ _ _ _ from HKE.out _ _ _ HQS4.out.two.di).mono ?_
                          rintro e w22 ⟨vk, rfl, hok, hb22⟩
                          have HR22 : Hid _ := HQS4.out.on hb22
                          have HSM : Hid _ := same_any vk (.slice Pb A.length kb) A (by omega) w22 (StrRow.of_vals hok rfl) (StrRow.of_vals HR22.out.ob rfl)
                          obtain ⟨Pk, kk, hkf⟩ := own_form hok
                          subst hkf
                          clear hok hb22
                          go_wp2_with fail
                          refine (show Calls _ _ _ _ _ from HSM.out).mono ?_
                          rintro e w23 ⟨rfl, hb23⟩
                          have HR23 : Hid _ := HR22.out.on hb23
                          clear hb23 HSM
                          obtain ⟨KA, kc, hck, hcells, _⟩ := row_cells HR23.out.oa (by simp)
                          injection hck with hk1 hk2 hk3
                          subst hk1; subst hk3
                          have c1 : w23.cell? ⟨KA, A.length + 2, none⟩ = some (.string ⟨#[51]⟩) := by
                            have q := hcells (A.length + 2) (by simp; omega)
                            rw [q, List.getElem_append_right (by omega)]
                            simp [hAl]
                          obtain ⟨KS, kc2, hck, hcells2, _⟩ := row_cells HR23.out.os (by simp)
                          injection hck with hk4 hk5 hk6
                          subst hk4; subst hk6
                          have c2 : w23.cell? ⟨KS, S.length + 2, none⟩ = some (.string ⟨#[52]⟩) := by
                            have q := hcells2 (S.length + 2) (by simp; omega)
                            rw [q, List.getElem_append_right (by omega)]
                            simp [hSl2]
                          have HBF : Hid _ := HR23.out.two.below
                          clear hcells hcells2 hk2 hk5
                          obtain ⟨nA, hnA⟩ : ∃ nA, A.length + 2 = nA := ⟨_, rfl⟩
                          obtain ⟨nS, hnS⟩ : ∃ nS, S.length + 2 = nS := ⟨_, rfl⟩
                          obtain ⟨mA, hmA⟩ : ∃ mA, A.length + 3 = mA := ⟨_, rfl⟩
                          obtain ⟨mS, hmS⟩ : ∃ mS, S.length + 3 = mS := ⟨_, rfl⟩
                          rw [hnA] at c1
                          rw [hnS] at c2
                          rw [hmA, hmS]
                          have q1 : IntKind.i64.wrap ((mA : Int) - 1) = (nA : Int) := by rw [IntKind.wrap_i64] <;> omega
                          have q2 : IntKind.i64.wrap ((mS : Int) - 1) = (nS : Int) := by rw [IntKind.wrap_i64] <;> omega
                          have q3 : (mA : Int) - 1 = (nA : Int) := by omega
                          have q4 : (mS : Int) - 1 = (nS : Int) := by omega
                          have q5 : (0 : Int) ≤ (nA : Int) := by omega
                          have q6 : (0 : Int) ≤ (nS : Int) := by omega
                          have q7 : (nA : Int) < (mA : Int) := by omega
                          have q8 : (nS : Int) < (mS : Int) := by omega
                          have b1 : nA ≤ 1048578 := by omega
                          have b2 : nS ≤ 1048578 := by omega
                          have b3 : mA ≤ 1048579 := by omega
                          have b4 : mS ≤ 1048579 := by omega
                          clear hnA hnS hmA hmS
                          go_wp2
                          go_returns
                          exact ⟨rfl, HBF.out⟩
end Go.Proofs.Ytdemodhjlbkbeaa
namespace Go.Proofs.Ytdemodhjlbkbeaa.dictApart
open Go.ChangeShapes Go.WideShapes Go.ChangeAt Go.RowKit Go.Deep
set_option linter.unusedVariables false
theorem own : ownKnob Try.prog.godebug = none := by kernel_rfl
theorem laidOut : laidOutB Try.prog = true := by kernel_rfl
set_option maxRecDepth 100000 in
theorem contract (H : Type) (enc : TypeId × Value → H) (W : World) (base : Nat) (args : Array Value) (ds gs : List (DataW H)) (before : List MemPlace)
    (hval0 : ∀ (j : Nat) t v, Try.f8.params[j]? = some t → args[j]? = some v → Value.okWide Try.prog W .any base t v)
    (hW : DataW.Whole enc Try.prog Try.f8.params.toList Rows.dictApartSpec.vars false W args.toList ds gs before) (hk : Rows.uptoSmall H (ds ++ gs) = true) :
    Calls Try.prog 8 args W fun e W' => ∃ v, e = .returned v ∧ Rows.dictApartSpec.post enc Try.prog Try.f8 false true false false W args v W' := by
  have hval : ∀ (j : Nat) t v, Try.f8.params[j]? = some t → args[j]? = some v → Value.okWide Try.prog W .any base t v := hval0
  have hW' := hW
  obtain ⟨p, q, hA0, hV, rfl, hfz, hnd⟩ := hW
  have hA : DataW.TrodAll enc Try.prog W 0 (fun _ => true) true Try.f8.params.toList args.toList ds p := hA0
  rw [Try.params8] at hA hval
  obtain ⟨v0, vs0, d0, ds0, p0, q0, hargs, rfl, rfl, h0, r0⟩ := trodAll_cons hA
  obtain ⟨v1, vs1, d1, ds1, p1, q1, rfl, rfl, rfl, h1, r1⟩ := trodAll_cons r0
  obtain ⟨v2, vs2, d2, ds2, p2, q2, rfl, rfl, rfl, h2, r2⟩ := trodAll_cons r1
  obtain ⟨rfl, rfl, rfl⟩ := trodAll_nil r2
  obtain rfl : args = #[v0, v1, v2] := by cases args; simp_all
  obtain ⟨rfl, rfl⟩ := trodVars_none hV
  obtain ⟨a0, rfl, rfl, rfl, w0⟩ := open_int Try.underlying3 (hval 0 3 v0 rfl rfl) h0
  have hlt1 : ∀ x ∈ p1, x.block < W.heap.size := fun x hx => by simpa using hW'.lt x (by simp [hx])
  have hlt2 : ∀ x ∈ p2, x.block < W.heap.size := fun x hx => by simpa using hW'.lt x (by simp [hx])
  have hk1 := h1
  have hk2 := h2
  obtain ⟨y1, z1, u1, rfl⟩ := okWide_slice Try.underlying25 (hval 1 25 v1 rfl rfl)
  obtain ⟨y2, z2, u2, rfl⟩ := okWide_slice Try.underlying25 (hval 2 25 v2 rfl rfl)
  obtain ⟨fuel1, hf1⟩ := h1
  obtain ⟨fuel2, hf2⟩ := h2
  have hb := bulk_small hk
  simp only [List.append_nil, Rows.uptoBulkAll] at hb
  obtain ⟨ad1, n1, c1, g1, o1, e1, a1, b1, i1⟩ := openU_ops (x := (d1, p1)) (by simpa [Value.cells] using hf1) (by show Rows.uptoBulk d1 ≤ _; omega)
  obtain ⟨ad2, n2, c2, g2, o2, e2, a2, b2, i2⟩ := openU_ops (x := (d2, p2)) (by simpa [Value.cells] using hf2) (by show Rows.uptoBulk d2 ≤ _; omega)
  have b1' : n1 + 1 ≤ Rows.uptoBulk d1 := b1
  have b2' : n2 + 1 ≤ Rows.uptoBulk d2 := b2
  have hn : n1 + n2 ≤ 1048576 := by omega
  injection e1 with j1 j2 j3
  injection e2 with l1 l2 l3
  subst j1; subst j2; subst j3; subst l1; subst l2; subst l3
  clear hA0 hval0 hk hb
  refine (Apart_walk a0 _ g1 o1 _ _ _ g2 o2 _ _ W a1 a2 hn i1 i2).mono fun e W' ⟨he, bel⟩ => ?_
  subst he
  exact ⟨_, rfl, _, _, _, [], _, [], hW', trodAll_mk1 (shut_bool Try.underlying4 _), (trodAll_cons_mk (shut_int Try.underlying3 w0) (trodAll_cons_mk (Below.trod laidOut (by kernel_rfl) (of_decide_eq_true (by kernel_rfl)) hk1 bel hlt1) (trodAll_cons_mk (Below.trod laidOut (by kernel_rfl) (of_decide_eq_true (by kernel_rfl)) hk2 bel hlt2) trodAll_mk0))), rfl, bel.frame _, fun h => by cases h⟩
set_option maxRecDepth 100000 in
theorem lifted (os : Os) (started : os.Started) (H : Type) (enc : TypeId × Value → H) (F : Stop.Interp) :
    ReturnsInHanded {} Try.checked os 8 .any ((Rows.OpenSpec.upto Rows.dictApartSpec).pre6 enc Try.prog Try.f8 Rows.dictApartUptoRow.domain false) (((Rows.OpenSpec.upto Rows.dictApartSpec).at F).post enc Try.prog Try.f8 false true false false) := by
  refine returnsInHanded_of_cond (C := Try.checked) (s := Rows.OpenSpec.upto Rows.dictApartSpec) (k := Rows.uptoSmall) rfl own started (by kernel_rfl) Try.func8
    (OpenSpec.witness (enc := enc) (C := Try.checked) (s := Rows.OpenSpec.upto Rows.dictApartSpec) (k := Rows.uptoSmall) rfl false ⟨#[], #[.int .i64 0, .slice none 0 0, .slice none 0 0], []⟩ 8 (by kernel_rfl) (by kernel_rfl) (by kernel_rfl)
      (x := ([.lit (.int .i64 0), .nil, .nil], [], [])) (by kernel_rfl) rfl (by kernel_rfl)) ?_
  intro W base args ds gs before hval hW _ hk _
  exact contract H enc W base args ds gs before hval hW hk
theorem over : Rows.dictApartUptoRow.holds Try.pinned (Rows.OpenSpec.upto Rows.dictApartSpec) :=
  OpenClaim.holds_of_cond 8 Try.f8 rfl rfl rfl rfl rfl rfl rfl ⟨rfl, rfl, rfl, rfl, rfl⟩ rfl rfl rfl rfl rfl (by kernel_rfl) Try.func8 (by kernel_rfl)
    (of_decide_eq_true (by kernel_rfl)) (by unfold Func.isWrapper; first | (rw [if_pos (by decide +kernel)]; kernel_rfl) | (rw [if_neg (by decide +kernel)]; exact ⟨rfl, rfl⟩))
    (fun os started H enc _ F => lifted os started H enc F)
end Go.Proofs.Ytdemodhjlbkbeaa.dictApart
namespace Go.Proofs.Ytdemodhjlbkbeaa
theorem dictApartUpto_holds : Rows.DictApartUptoSaid := dictApart.over
#print axioms dictApartUpto_holds
end Go.Proofs.Ytdemodhjlbkbeaa
