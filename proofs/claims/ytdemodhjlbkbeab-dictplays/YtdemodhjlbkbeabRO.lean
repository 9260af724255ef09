import Derived.Test.YtdemodhjlbkbeabRN
import Derived.Test.YtdemodhjlbkbeabRL
import Derived.Test.YtdemodhjlbkbeabRM
namespace Go.Proofs.Ytdemodhjlbkbeab
open Go.RowKit
set_option linter.unusedVariables false
theorem Grew.di {w w' : World} {v v' : Value} (h : Grew w w' v v') {g : Nat} {F : List Nat} {D : DS} (hd : DI w g F D) (hap : ∀ q ∈ F, v.ownBlock ≠ some q) : DI w' g F D :=
  hd.keep (fun q hq => h.fr.block q (hd.lt q hq) (fun e => hap q hq e.symm))
/-- a table of a dict, with its place. -/
structure TabOf (w : World) (g o : Nat) (F : List Nat) (T : List (List Ent)) (B : Nat) (bvs : Array Value) : Prop where
  c : w.cell? ⟨g, o, none⟩ = some (.slice (some ⟨B, 0, none⟩) T.length T.length)
  t : TabIs w 0 B bvs T
  sub : ∀ q ∈ g :: B :: bblocks bvs, q ∈ F
theorem DI.tab1 {w : World} {g : Nat} {F : List Nat} {D : DS} (h : DI w g F D) (hne : D.T1 ≠ []) : ∃ B bvs, TabOf w g 1 F D.T1 B bvs := by
  obtain ⟨v1, v2, L1, L2, h1, h2, h3, rfl, h4⟩ := h
  rcases h2 with ⟨_, e, _⟩ | ⟨B, bvs, rfl, _, hI, rfl⟩
  · exact absurd e hne
  · refine ⟨B, bvs, (row6 h1).2.1, hI, fun q hq => ?_⟩
    rcases List.mem_cons.1 hq with rfl | hq
    · simp
    · exact List.mem_cons_of_mem _ (List.mem_append_left _ hq)
theorem DI.tab2 {w : World} {g : Nat} {F : List Nat} {D : DS} (h : DI w g F D) (hne : D.T2 ≠ []) : ∃ B bvs, TabOf w g 3 F D.T2 B bvs := by
  obtain ⟨v1, v2, L1, L2, h1, h2, h3, rfl, h4⟩ := h
  rcases h3 with ⟨_, e, _⟩ | ⟨B, bvs, rfl, _, hI, rfl⟩
  · exact absurd e hne
  · refine ⟨B, bvs, (row6 h1).2.2.2.1, hI, fun q hq => ?_⟩
    rcases List.mem_cons.1 hq with rfl | hq
    · simp
    · exact List.mem_cons_of_mem _ (List.mem_append_right _ hq)
theorem TabOf.keep {w w' : World} {g o : Nat} {F : List Nat} {T : List (List Ent)} {B : Nat} {bvs : Array Value} (h : TabOf w g o F T B bvs) (hk : ∀ q ∈ F, w'.heap[q]? = w.heap[q]?) : TabOf w' g o F T B bvs :=
  ⟨(World.cell?_of_block (a := ⟨g, o, none⟩) (hk g (h.sub g (by simp)))).trans h.c, h.t.keep (hk B (h.sub B (by simp))) (fun E hE => hk E (h.sub E (by simp [hE]))), h.sub⟩
theorem TabOf.lt {w : World} {g o : Nat} {F : List Nat} {T : List (List Ent)} {B : Nat} {bvs : Array Value} (h : TabOf w g o F T B bvs) : g < w.heap.size := lt_of_cell h.c
theorem meet_of {w : World} {g o : Nat} {F : List Nat} {T : List (List Ent)} {B : Nat} {bvs : Array Value} (h : TabOf w g o F T B bvs) (b : Nat) (hb : T.length = 2 ^ b) (x : Nat) (hc : cnt T ≤ 4398046511000) (hks : ∀ e ∈ T.flatten, e.1.size ≤ 281474976710656) (bk0 m : Nat) (hm : m ≤ 4398046511103) (kv : Value) (xs : List Value) (hbk : bk0 ≤ w.heap.size) (hkv : w.ownsRow bk0 9 1 kv m xs) (hap : ∀ q ∈ F, kv.ownBlock ≠ some q) :
    Calls Try.prog 57 #[.pointer (some ⟨g, o, none⟩), kv, .int .i64 ((x % T.length : Nat) : Int)] w fun e w' => ∃ r, e = .returned r ∧ w'.ownsRow bk0 9 1 r (m + (bk T b x).length) (xs ++ keyV (bk T b x)) ∧ Grew w w' kv r := by
  have hx : x % T.length < T.length := by rw [hb]; exact Nat.mod_lt _ (Nat.two_pow_pos b)
  have e : bk T b x = T[x % T.length] := by
    unfold bk
    rw [← hb, List.getElem?_eq_getElem hx, Option.getD_some]
  rw [e]
  have hle := len_le_cnt T _ hx
  exact meet_tab g o B T.length _ bvs T rfl hx (by omega) (fun y hy => hks y (List.mem_flatten.2 ⟨_, List.getElem_mem hx, hy⟩)) bk0 m hm kv xs w hbk hkv h.c h.t (fun q hq => hap q (h.sub q (by simp [hq])))
set_option maxHeartbeats 2000000 in
set_option maxRecDepth 100000 in
theorem visit_still (g : Nat) (F : List Nat) (D : DS) (hD : DInv D) (hm2 : D.T2 = []) (hne : D.T1 ≠ []) (j : Nat) (hj : 1 ≤ j) (hj2 : j ≤ 42) (hjl : D.T1.length = 2 ^ j) (hc : cnt D.T1 ≤ 4398046511000) (c : Nat) (hcb : c ≤ 9223372036854775807) (bk0 m : Nat) (hm : m ≤ 4398046511103) (kv : Value) (xs : List Value) (w : World) (hbk : bk0 ≤ w.heap.size) (hkv : w.ownsRow bk0 9 1 kv m xs) (hap : ∀ q ∈ F, kv.ownBlock ≠ some q) (h : DI w g F D) :
    Calls Try.prog 40 #[.pointer (some ⟨g, 0, none⟩), kv, .int .i64 (c : Int)] w fun e w' => ∃ r, e = .returned (.tuple #[r, .int .i64 (nextC j c : Nat)]) ∧ w'.ownsRow bk0 9 1 r (m + (bk D.T1 j c).length) (xs ++ keyV (bk D.T1 j c)) ∧ Grew w w' kv r := by
  obtain ⟨B, bvs, hT⟩ := h.tab1 hne
  have HMV := di_moves g F D w h
  rw [show decide (D.T2 ≠ []) = false by simp [hm2]] at HMV
  have HMVH : Hid _ := HMV
  have hb0 : Below w.heap.size w w.drew := (Below.refl _ _).drew
  have hT1 : TabOf w.drew g 1 F D.T1 B bvs := hT.keep (fun q hq => hb0.block q (h.lt q hq))
  have HMT := meet_of hT1 j hjl c hc (fun e he => hD.keys e (List.mem_append_left _ he)) bk0 m hm kv xs hbk (own_keep hkv (fun k _ hk => hb0.block k hk)) hap
  have HMK : Hid _ := HMT
  have HNX : Hid _ := next_any c j hcb hj hj2
  rw [← hjl] at HNX
  have hcu := and_mod j hj2 c hcb D.T1.length hjl
  have HTO : Hid (TabOf w.drew g 1 F D.T1 B bvs) := hT1
  have HAP : Hid _ := hap
  have HGL : Hid (g < w.drew.heap.size) := hT1.lt
  have HGA : Hid (kv.ownBlock ≠ some g) := hap g (hT.sub g (by simp))
  obtain ⟨P, kc, hkf⟩ := own_form hkv
  subst hkf
  have hnl := hD.sz1
  generalize (bk D.T1 j c) = BK at *
  generalize nextC j c = NC at *
  have HC1 := hT1.c
  generalize D.T1.length = n at *
  obtain ⟨ix, hix⟩ : ∃ ix, c % n = ix := ⟨_, rfl⟩
  rw [hix] at hcu HMK
  clear hix
  have HSZ : Hid (∀ W, W.cell? ⟨g, 1, none⟩ = some (.slice (some ⟨B, 0, none⟩) n n) → Calls Try.prog 39 #[.pointer (some ⟨g, 1, none⟩)] W fun e w' => e = .returned (.int .i64 (n : Int)) ∧ w' = W) := fun W hW => size_any g 1 _ n n W hW
  have hwn : IntKind.i64.wrap ((n : Int) - 1) = (n : Int) - 1 := by rw [IntKind.wrap_i64] <;> omega
  clear h hT hT1 hkv hap HMV HMT hjl hD hm2 hne
  go_enter Try.func40, Try.ntmps40
  go_wp2_with fail
  refine (show Calls _ _ _ _ _ from HMVH.out).mono ?_
  rintro e w1 ⟨rfl, rfl⟩
  go_wp2_with fail
  go_region_with (first
    | (go_at_call 39; refine (show Calls _ _ _ _ _ from HSZ.out _ ?_).mono ?_; (with_reducible assumption); rintro e w2 ⟨rfl, rfl⟩)
    | (go_at_call 57; refine (show Calls _ _ _ _ _ from HMK.out).mono ?_; rintro e w2 ⟨r, rfl, ho2, hg2⟩; have hD2 : w2.cell? ⟨g, 1, none⟩ = some (.slice (some ⟨B, 0, none⟩) n n) := (World.cell?_of_block (a := ⟨g, 1, none⟩) (hg2.fr.block g HGL.out (fun e => HGA.out e.symm))).trans HC1)
    | (go_at_call 58; refine (show Calls _ _ _ _ _ from HNX.out _).mono ?_; rintro e w2 ⟨rfl, rfl⟩))
  all_goals
    have HO2 : Hid (w2.ownsRow bk0 9 1 r (m + BK.length) (xs ++ keyV BK)) := ho2
    have HG2 : Hid (Grew w1 w2 (.slice P m kc) r) := (Grew.of_below _ (Below.refl w1.heap.size w1).drew).trans hg2
    go_wp2
    go_returns
    exact ⟨_, rfl, HO2.out, HG2.out⟩
end Go.Proofs.Ytdemodhjlbkbeab
namespace Go.Proofs.Ytdemodhjlbkbeab
open Go.RowKit
set_option linter.unusedVariables false
theorem itN_le (b : Nat) (hb : b ≤ 42) (c t : Nat) (hc : c ≤ 9223372036854775807) : itN b t c ≤ 9223372036854775807 := by
  cases t with
  | zero => exact hc
  | succ t =>
    have h1 := itN_lt b (by omega) c t
    have hp : 2 ^ b ≤ 2 ^ 42 := Nat.pow_le_pow_right (by omega) hb
    omega
theorem lpart_mono (L : List (List Ent)) (b c : Nat) : ∀ t d, (lpart L b t c).length ≤ (lpart L b (t + d) c).length
  | t, 0 => Nat.le_refl _
  | t, d + 1 => by
    refine Nat.le_trans (lpart_mono L b c t d) ?_
    show _ ≤ (lpart L b (t + d) c ++ bk L b (itN b (t + d) c)).length
    rw [List.length_append]; omega
set_option maxHeartbeats 4000000 in
set_option maxRecDepth 100000 in
/-- a visit while a move goes on: S the smaller table, L the larger one. -/
theorem visit_moving (g : Nat) (F : List Nat) (D : DS) (hD : DInv D) (oS oL : Nat) (S L : List (List Ent)) (hcase : (oS = 1 ∧ oL = 3 ∧ S = D.T1 ∧ L = D.T2 ∧ D.T1.length ≤ D.T2.length) ∨ (oS = 3 ∧ oL = 1 ∧ S = D.T2 ∧ L = D.T1 ∧ D.T2.length < D.T1.length)) (hm2 : D.T2 ≠ []) (hne : D.T1 ≠ []) (a b : Nat) (ha : 1 ≤ a) (hab : a ≤ b) (hb : b ≤ 42) (hSl : S.length = 2 ^ a) (hLl : L.length = 2 ^ b)
    (hcS : cnt S ≤ 4398046511000) (hcL : cnt L ≤ 4398046511000) (hwS : TWf D.seed S) (hwL : TWf D.seed L) (hndL : (L.flatten.map (·.1)).Nodup) (hkS : ∀ e ∈ S.flatten, e.1.size ≤ 281474976710656) (hkL : ∀ e ∈ L.flatten, e.1.size ≤ 281474976710656)
    (c : Nat) (hcb : c ≤ 9223372036854775807) (bk0 m : Nat) (hm : m + (bk S a c ++ lpart L b (vlen a b c) c).length ≤ 4398046511103) (kv : Value) (xs : List Value) (w : World) (hbk : bk0 ≤ w.heap.size) (hkv : w.ownsRow bk0 9 1 kv m xs) (hap : ∀ q ∈ F, kv.ownBlock ≠ some q) (h : DI w g F D) :
    Calls Try.prog 40 #[.pointer (some ⟨g, 0, none⟩), kv, .int .i64 (c : Int)] w fun e w' => ∃ r, e = .returned (.tuple #[r, .int .i64 (nextC a c : Nat)]) ∧ w'.ownsRow bk0 9 1 r (m + (bk S a c ++ lpart L b (vlen a b c) c).length) (xs ++ keyV (bk S a c ++ lpart L b (vlen a b c) c)) ∧ Grew w w' kv r := by
  have HMV := di_moves g F D w h
  rw [show decide (D.T2 ≠ []) = true by simp [hm2]] at HMV
  have HMVH : Hid _ := HMV
  obtain ⟨BS, bS, BL, bL, hTS, hTL⟩ : ∃ BS bS BL bL, TabOf w g oS F S BS bS ∧ TabOf w g oL F L BL bL := by
    obtain ⟨B1, b1, t1⟩ := h.tab1 hne
    obtain ⟨B2, b2, t2⟩ := h.tab2 hm2
    rcases hcase with ⟨rfl, rfl, rfl, rfl, _⟩ | ⟨rfl, rfl, rfl, rfl, _⟩
    · exact ⟨B1, b1, B2, b2, t1, t2⟩
    · exact ⟨B2, b2, B1, b1, t2, t1⟩
  have HTS : Hid (TabOf w g oS F S BS bS) := hTS
  have HTL : Hid (TabOf w g oL F L BL bL) := hTL
  have HAP : Hid _ := hap
  have HKV : Hid (w.ownsRow bk0 9 1 kv m xs) := hkv
  have HDL : Hid (∀ q ∈ F, q < w.heap.size) := fun q hq => h.lt q hq
  have HKS : Hid _ := hkS
  have HKL : Hid _ := hkL
  have HWL : Hid _ := hwL
  have HNDL : Hid _ := hndL
  have HLL : Hid (L.length = 2 ^ b) := hLl
  have HSL : Hid (S.length = 2 ^ a) := hSl
  obtain ⟨P, kc, hkf⟩ := own_form hkv
  subst hkf
  have hpb : 2 ^ b ≤ 2 ^ 42 := Nat.pow_le_pow_right (by omega) hb
  have hpa : 2 ^ a ≤ 2 ^ b := Nat.pow_le_pow_right (by omega) hab
  have hpa0 := Nat.two_pow_pos a
  have hlenS : S.length ≤ 4398046511104 := by omega
  have hlenL : L.length ≤ 4398046511104 := by omega
  have hlenSL : S.length ≤ L.length := by omega
  have HCASE : Hid _ := hcase
  have HMM : Hid (m + (bk S a c).length + (lpart L b (vlen a b c) c).length ≤ 4398046511103) := by
    rw [List.length_append] at hm; show _ ≤ _; omega
  clear hm
  have HSI : Hid (∀ (o : Nat) (W : World) (P : Option Addr) (n k : Nat), W.cell? ⟨g, o, none⟩ = some (.slice P n k) → Calls Try.prog 39 #[.pointer (some ⟨g, o, none⟩)] W fun e w' => e = .returned (.int .i64 (n : Int)) ∧ w' = W) := fun o W P n k hW => size_any g o P n k W hW
  clear h hTS hTL hkv hap HMV hkS hkL hwS hwL hndL hcase hD hm2 hne hSl hLl
  go_enter Try.func40, Try.ntmps40
  go_wp2_with fail
  refine (show Calls _ _ _ _ _ from HMVH.out).mono ?_
  rintro e w1 ⟨rfl, rfl⟩
  go_wp2_with fail
  have hsc := HTS.out.c
  have hlc := HTL.out.c
  rcases HCASE.out with ⟨rfl, rfl, eS, eL, hle⟩ | ⟨rfl, rfl, eS, eL, hle⟩
  · rw [← eS, ← eL] at hle
    have HS1 : Hid (∀ n, Calls Try.prog 39 #[.pointer (some ⟨g, 1, none⟩)] (w1.drewN n) fun e w' => e = .returned (.int .i64 (S.length : Int)) ∧ w' = w1.drewN n) := fun n => HSI.out 1 _ _ _ _ hsc
    have HS3 : Hid (∀ n, Calls Try.prog 39 #[.pointer (some ⟨g, 3, none⟩)] (w1.drewN n) fun e w' => e = .returned (.int .i64 (L.length : Int)) ∧ w' = w1.drewN n) := fun n => HSI.out 3 _ _ _ _ hlc
    clear eS eL hsc hlc
    go_quiet (fail)
    have hbc : Below w1.heap.size w1 (w1.drewN nq) := below_dn (Below.refl _ _) nq
    go_wp2_with fail
    refine (show Calls _ _ _ _ _ from HS1.out nq).mono ?_
    rintro e w2 ⟨rfl, rfl⟩
    go_wp2_with fail
    refine (show Calls _ _ _ _ _ from HS3.out nq).mono ?_
    rintro e w2 ⟨rfl, rfl⟩
    clear HS1 HS3
    generalize w1.drewN nq = wc at *
    have HTSc : Hid (TabOf wc g 1 F S BS bS) := HTS.out.keep (fun q hq => hbc.block q (HDL.out q hq))
    have HTLc : Hid (TabOf wc g 3 F L BL bL) := HTL.out.keep (fun q hq => hbc.block q (HDL.out q hq))
    have HKVc : Hid (wc.ownsRow bk0 9 1 (.slice P m kc) m xs) := own_keep HKV.out (fun k _ hk => hbc.block k hk)
    have HGc : Hid (Grew w1 wc (.slice P m kc) (.slice P m kc)) := Grew.of_below _ hbc
    have HDLc : Hid (∀ q ∈ F, q < wc.heap.size) := fun q hq => Nat.lt_of_lt_of_le (HDL.out q hq) hbc.size
    have hbkc : bk0 ≤ wc.heap.size := Nat.le_trans hbk hbc.size
    have HMT := meet_of HTSc.out a HSL.out c hcS HKS.out bk0 m (by have := HMM.out; omega) (.slice P m kc) xs hbkc HKVc.out HAP.out
    have hcu := and_mod a (by omega) c hcb S.length HSL.out
    have HS1 : Hid _ := HSI.out 1 wc _ _ _ HTSc.out.c
    obtain ⟨ix, hix⟩ : ∃ ix, c % S.length = ix := ⟨_, rfl⟩
    rw [hix] at hcu HMT
    have HMK : Hid _ := HMT
    have hbS : (bk S a c).length ≤ cnt S := by
      have hx : c % 2 ^ a < S.length := by rw [HSL.out]; exact Nat.mod_lt _ (Nat.two_pow_pos a)
      unfold bk; rw [List.getElem?_eq_getElem hx, Option.getD_some]; exact len_le_cnt S _ hx
    clear hbc HMT hix
    obtain ⟨nS, hnS⟩ : ∃ nS, S.length = nS := ⟨_, rfl⟩
    obtain ⟨nL, hnL⟩ : ∃ nL, L.length = nL := ⟨_, rfl⟩
    rw [hnS] at hcu HS1 hlenS hlenSL
    rw [hnL] at hlenL hlenSL
    have HNS : Hid _ := hnS
    have HNL : Hid _ := hnL
    have hnS0 : 1 ≤ nS := by have := HSL.out; omega
    clear hnS hnL
    have hwn : IntKind.i64.wrap ((nS : Int) - 1) = (nS : Int) - 1 := by rw [IntKind.wrap_i64] <;> omega
    go_wp2_with fail
    refine (show Calls _ _ _ _ _ from HS1.out).mono ?_
    rintro e w2 ⟨rfl, rfl⟩
    go_wp2_with fail
    refine (show Calls _ _ _ _ _ from HMK.out).mono ?_
    rintro e w3 ⟨r3, rfl, ho3, hg3⟩
    have HO3 : Hid (w3.ownsRow bk0 9 1 r3 (m + (bk S a c).length) (xs ++ keyV (bk S a c))) := ho3
    have HG3 : Hid (Grew w1 w3 (.slice P m kc) r3) := HGc.out.trans hg3
    clear ho3 hg3
    have HQ : Hid _ := vlen_le a b c hab (by omega)
    obtain ⟨V, hV⟩ : ∃ V, vlen a b c = V := ⟨_, rfl⟩
    have HV : Hid _ := hV
    have HVP : Hid (0 < V) := by rw [← hV]; exact vlen_pos a b c
    rw [hV] at HQ
    clear hV
    go_wp2
    go_loopw [1, 2] (fun ck cz wr => ∃ (t cu M : Nat), t < V ∧ cu = itN b t c ∧ cz = .int .i64 (cu : Int) ∧ M = m + (bk S a c ++ lpart L b t c).length ∧ wr.ownsRow bk0 9 1 ck M (xs ++ keyV (bk S a c ++ lpart L b t c)) ∧ Grew w1 wr (.slice P m kc) ck) (fun _ cz _ => Rj b c + V - Rj b (intOf cz).toNat)
    case atStart => exact ⟨0, c, _, HVP.out, rfl, rfl, rfl, by simpa [lpart] using HO3.out, HG3.out⟩
    case round =>
      obtain ⟨t, cu, M, ht, hcu2, rfl, hM, hot, hgt⟩ := hrel
      have HCU : Hid (cu = itN b t c) := hcu2
      have HM : Hid _ := hM
      have HOT : Hid (wr.ownsRow bk0 9 1 _ M (xs ++ keyV (bk S a c ++ lpart L b t c))) := hot
      have HGT : Hid (Grew w1 wr (.slice P m kc) _) := hgt
      obtain ⟨P2, kc2, hkf⟩ := own_form hot
      subst hkf
      have hck := itN_le b hb c t hcb
      rw [← hcu2] at hck
      have hRt := itN_R b (by omega) c t
      rw [Nat.mod_eq_of_lt (by have := HQ.out; omega), ← hcu2] at hRt
      have hblk : ∀ q ∈ F, wr.heap[q]? = w1.heap[q]? := fun q hq => hgt.fr.block q (HDL.out q hq) (fun e => HAP.out q hq e.symm)
      have HTLt : Hid (TabOf wr g 3 F L BL bL) := HTL.out.keep hblk
      have HTSt : Hid (TabOf wr g 1 F S BS bS) := HTS.out.keep hblk
      have HAPt : Hid (∀ q ∈ F, (Value.slice P2 M kc2).ownBlock ≠ some q) := fun q hq => hgt.ne_own (HDL.out q hq) (HAP.out q hq)
      have hlp := lpart_mono L b c t (V - t)
      rw [show t + (V - t) = V by omega] at hlp
      have hMb : M ≤ 4398046511103 := by have := HMM.out; rw [HV.out] at this; rw [hM, List.length_append]; omega
      have HMT2 := meet_of HTLt.out b HLL.out cu hcL HKL.out bk0 M hMb (.slice P2 M kc2) _ (Nat.le_trans hbk hgt.fr.size) HOT.out HAPt.out
      have hcu3 := and_mod b hb cu hck L.length HLL.out
      have HS5 : Hid _ := HSI.out 3 wr _ _ _ HTLt.out.c
      obtain ⟨iy, hiy⟩ : ∃ iy, cu % L.length = iy := ⟨_, rfl⟩
      rw [hiy] at hcu3 HMT2
      have HMK2 : Hid _ := HMT2
      have HNX := next_any cu b hck (by omega) hb
      rw [← HLL.out] at HNX
      have HN1 : nextC b cu = itN b (t + 1) c := by rw [hcu2]; rfl
      have hNl : itN b (t + 1) c < 2 ^ b := itN_lt b (by omega) c t
      have hand := and_low a b hab hb (itN b (t + 1) c) hNl
      have hiff := vlen_end a b c t (by rw [HV.out]; exact ht)
      have hR1 := itN_R b (by omega) c (t + 1)
      have hzero := and_zero a b hab (itN b (t + 1) c) hNl
      have hlow := low_iff a b hab (by omega) (itN b (t + 1) c) hNl
      have hmm : Rj b (itN b (t + 1) c) % 2 ^ (b - a) = (Rj b c + (t + 1)) % 2 ^ (b - a) := by
        rw [hR1, pow_split a b hab, Nat.mod_mul_right_mod]
      have HDEC : Hid (itN b (t + 1) c &&& (2 ^ b - 2 ^ a) = 0 ↔ t + 1 = V) := by
        show _ ↔ _
        rw [hzero, ← hlow, hmm, hiff, HV.out]
      have hsubn : ((nL : Int) - (nS : Int)) = ((2 ^ b - 2 ^ a : Nat) : Int) := by have := HSL.out; have := HLL.out; have := HNS.out; have := HNL.out; omega
      rw [HN1] at HNX
      rw [HNL.out] at HNX hcu3 HS5
      rw [← hsubn] at hand
      have HNXH : Hid _ := HNX
      have HSS := HSI.out 1 wr _ _ _ HTSt.out.c
      have HREC : Hid (lpart L b (t + 1) c = lpart L b t c ++ bk L b cu) := by show _ = _; rw [hcu2]; rfl
      have HNR : Hid (t + 1 < V → Rj b (itN b (t + 1) c) = Rj b c + (t + 1)) := fun hlt => by rw [hR1, Nat.mod_eq_of_lt (by have := HQ.out; omega)]
      have HRT : Hid _ := hRt
      have hN2 : itN b (t + 1) c ≤ 9223372036854775807 := itN_le b hb c (t + 1) hcb
      clear HNX HMT2 hiff hR1 hzero hlow hmm HN1 hNl hcu2 hiy hot hRt hlp hM HSS hsubn
      obtain ⟨nc, hnc⟩ : ∃ nc, itN b (t + 1) c = nc := ⟨_, rfl⟩
      rw [hnc] at hand HNXH HDEC HNR hN2
      have HNC : Hid _ := hnc
      generalize hAV : nc &&& (2 ^ b - 2 ^ a) = AV at *
      clear hnc hAV
      have hwl : IntKind.i64.wrap ((nL : Int) - 1) = (nL : Int) - 1 := by rw [IntKind.wrap_i64] <;> omega
      have hwd : IntKind.i64.wrap ((nL : Int) - (nS : Int)) = (nL : Int) - (nS : Int) := by rw [IntKind.wrap_i64] <;> omega
      clear hwn hcu hgt hblk
      go_wp2_with fail
      refine (show Calls _ _ _ _ _ from HS5.out).mono ?_
      rintro e w4 ⟨rfl, rfl⟩
      go_wp2_with fail
      refine (show Calls _ _ _ _ _ from HMK2.out).mono ?_
      rintro e w5 ⟨r5, rfl, ho5, hg5⟩
      have HG5 : Hid (Grew w1 w5 (.slice P m kc) r5) := HGT.out.trans hg5
      have hblk5 : ∀ q ∈ F, w5.heap[q]? = w1.heap[q]? := fun q hq => HG5.out.fr.block q (HDL.out q hq) (fun e => HAP.out q hq e.symm)
      have HTL5 := HTL.out.keep hblk5
      have HTS5 := HTS.out.keep hblk5
      have HS6 : Hid _ := HSI.out 3 w5 _ _ _ HTL5.c
      have HS7 : Hid _ := HSI.out 1 w5 _ _ _ HTS5.c
      rw [HNL.out] at HS6
      rw [HNS.out] at HS7
      have HO5 : Hid (w5.ownsRow bk0 9 1 r5 (M + (bk L b cu).length) (xs ++ keyV (bk S a c ++ lpart L b (t + 1) c))) := by
        show World.ownsRow _ _ _ _ _ _ _
        rw [HREC.out, ← List.append_assoc, keyV_app, ← List.append_assoc]; exact ho5
      have HM5 : Hid (M + (bk L b cu).length = m + (bk S a c ++ lpart L b (t + 1) c).length) := by
        show _ = _
        have q := HM.out
        rw [HREC.out, ← List.append_assoc, List.length_append, q]; omega
      clear ho5 hg5 hblk5 HTL5 HTS5
      go_wp2_with fail
      refine (show Calls _ _ _ _ _ from HS6.out).mono ?_
      rintro e w6 ⟨rfl, rfl⟩
      go_wp2_with fail
      refine (show Calls _ _ _ _ _ from HNXH.out _).mono ?_
      rintro e w6 ⟨rfl, rfl⟩
      go_wp2_with fail
      refine (show Calls _ _ _ _ _ from HS6.out).mono ?_
      rintro e w6 ⟨rfl, rfl⟩
      go_wp2_with fail
      refine (show Calls _ _ _ _ _ from HS7.out).mono ?_
      rintro e w6 ⟨rfl, rfl⟩
      by_cases hend : t + 1 = V
      · have hav : AV = 0 := HDEC.out.2 hend
        subst hav
        have HFI : Hid (nc = nextC a c) := by
          show _ = _
          rw [← HNC.out, hend, ← HV.out]; exact cur_end a b c hab (by omega)
        have HHE : Hid _ := hend
        clear hend
        go_wp2
        go_returns
        refine ⟨r5, by rw [← HFI.out]; rfl, ?_, HG5.out⟩
        rw [HV.out, ← HHE.out, ← HM5.out]; exact HO5.out
      · have hav : ¬ AV = 0 := fun e => hend (HDEC.out.1 e)
        have havi : ((AV : Int) == 0) = false := by simpa using hav
        have hlt2 : t + 1 < V := by omega
        have HNR2 : Hid _ := HNR.out hlt2
        go_wp2
        go_roundw
        case rel => exact ⟨t + 1, nc, _, hlt2, HNC.out.symm, rfl, HM5.out, HO5.out, HG5.out⟩
        case measure =>
          simp only [intOf, Int.toNat_natCast]
          rw [HNR2.out, HRT.out]; omega
  · rw [← eS, ← eL] at hle
    have HS1 : Hid (∀ n, Calls Try.prog 39 #[.pointer (some ⟨g, 1, none⟩)] (w1.drewN n) fun e w' => e = .returned (.int .i64 (L.length : Int)) ∧ w' = w1.drewN n) := fun n => HSI.out 1 _ _ _ _ hlc
    have HS3 : Hid (∀ n, Calls Try.prog 39 #[.pointer (some ⟨g, 3, none⟩)] (w1.drewN n) fun e w' => e = .returned (.int .i64 (S.length : Int)) ∧ w' = w1.drewN n) := fun n => HSI.out 3 _ _ _ _ hsc
    clear eS eL hsc hlc
    go_quiet (fail)
    have hbc : Below w1.heap.size w1 (w1.drewN nq) := below_dn (Below.refl _ _) nq
    go_wp2_with fail
    refine (show Calls _ _ _ _ _ from HS1.out nq).mono ?_
    rintro e w2 ⟨rfl, rfl⟩
    go_wp2_with fail
    refine (show Calls _ _ _ _ _ from HS3.out nq).mono ?_
    rintro e w2 ⟨rfl, rfl⟩
    clear HS1 HS3
    generalize w1.drewN nq = wc at *
    have HTSc : Hid (TabOf wc g 3 F S BS bS) := HTS.out.keep (fun q hq => hbc.block q (HDL.out q hq))
    have HTLc : Hid (TabOf wc g 1 F L BL bL) := HTL.out.keep (fun q hq => hbc.block q (HDL.out q hq))
    have HKVc : Hid (wc.ownsRow bk0 9 1 (.slice P m kc) m xs) := own_keep HKV.out (fun k _ hk => hbc.block k hk)
    have HGc : Hid (Grew w1 wc (.slice P m kc) (.slice P m kc)) := Grew.of_below _ hbc
    have HDLc : Hid (∀ q ∈ F, q < wc.heap.size) := fun q hq => Nat.lt_of_lt_of_le (HDL.out q hq) hbc.size
    have hbkc : bk0 ≤ wc.heap.size := Nat.le_trans hbk hbc.size
    have HMT := meet_of HTSc.out a HSL.out c hcS HKS.out bk0 m (by have := HMM.out; omega) (.slice P m kc) xs hbkc HKVc.out HAP.out
    have hcu := and_mod a (by omega) c hcb S.length HSL.out
    have HS1 : Hid _ := HSI.out 3 wc _ _ _ HTSc.out.c
    obtain ⟨ix, hix⟩ : ∃ ix, c % S.length = ix := ⟨_, rfl⟩
    rw [hix] at hcu HMT
    have HMK : Hid _ := HMT
    have hbS : (bk S a c).length ≤ cnt S := by
      have hx : c % 2 ^ a < S.length := by rw [HSL.out]; exact Nat.mod_lt _ (Nat.two_pow_pos a)
      unfold bk; rw [List.getElem?_eq_getElem hx, Option.getD_some]; exact len_le_cnt S _ hx
    clear hbc HMT hix
    obtain ⟨nS, hnS⟩ : ∃ nS, S.length = nS := ⟨_, rfl⟩
    obtain ⟨nL, hnL⟩ : ∃ nL, L.length = nL := ⟨_, rfl⟩
    rw [hnS] at hcu HS1 hlenS hlenSL
    rw [hnL] at hlenL hlenSL
    have HNS : Hid _ := hnS
    have HNL : Hid _ := hnL
    have hnS0 : 1 ≤ nS := by have := HSL.out; omega
    clear hnS hnL
    have hwn : IntKind.i64.wrap ((nS : Int) - 1) = (nS : Int) - 1 := by rw [IntKind.wrap_i64] <;> omega
    go_wp2_with fail
    refine (show Calls _ _ _ _ _ from HS1.out).mono ?_
    rintro e w2 ⟨rfl, rfl⟩
    go_wp2_with fail
    refine (show Calls _ _ _ _ _ from HMK.out).mono ?_
    rintro e w3 ⟨r3, rfl, ho3, hg3⟩
    have HO3 : Hid (w3.ownsRow bk0 9 1 r3 (m + (bk S a c).length) (xs ++ keyV (bk S a c))) := ho3
    have HG3 : Hid (Grew w1 w3 (.slice P m kc) r3) := HGc.out.trans hg3
    clear ho3 hg3
    have HQ : Hid _ := vlen_le a b c hab (by omega)
    obtain ⟨V, hV⟩ : ∃ V, vlen a b c = V := ⟨_, rfl⟩
    have HV : Hid _ := hV
    have HVP : Hid (0 < V) := by rw [← hV]; exact vlen_pos a b c
    rw [hV] at HQ
    clear hV
    go_wp2
    go_loopw [1, 2] (fun ck cz wr => ∃ (t cu M : Nat), t < V ∧ cu = itN b t c ∧ cz = .int .i64 (cu : Int) ∧ M = m + (bk S a c ++ lpart L b t c).length ∧ wr.ownsRow bk0 9 1 ck M (xs ++ keyV (bk S a c ++ lpart L b t c)) ∧ Grew w1 wr (.slice P m kc) ck) (fun _ cz _ => Rj b c + V - Rj b (intOf cz).toNat)
    case atStart => exact ⟨0, c, _, HVP.out, rfl, rfl, rfl, by simpa [lpart] using HO3.out, HG3.out⟩
    case round =>
      obtain ⟨t, cu, M, ht, hcu2, rfl, hM, hot, hgt⟩ := hrel
      have HCU : Hid (cu = itN b t c) := hcu2
      have HM : Hid _ := hM
      have HOT : Hid (wr.ownsRow bk0 9 1 _ M (xs ++ keyV (bk S a c ++ lpart L b t c))) := hot
      have HGT : Hid (Grew w1 wr (.slice P m kc) _) := hgt
      obtain ⟨P2, kc2, hkf⟩ := own_form hot
      subst hkf
      have hck := itN_le b hb c t hcb
      rw [← hcu2] at hck
      have hRt := itN_R b (by omega) c t
      rw [Nat.mod_eq_of_lt (by have := HQ.out; omega), ← hcu2] at hRt
      have hblk : ∀ q ∈ F, wr.heap[q]? = w1.heap[q]? := fun q hq => hgt.fr.block q (HDL.out q hq) (fun e => HAP.out q hq e.symm)
      have HTLt : Hid (TabOf wr g 1 F L BL bL) := HTL.out.keep hblk
      have HTSt : Hid (TabOf wr g 3 F S BS bS) := HTS.out.keep hblk
      have HAPt : Hid (∀ q ∈ F, (Value.slice P2 M kc2).ownBlock ≠ some q) := fun q hq => hgt.ne_own (HDL.out q hq) (HAP.out q hq)
      have hlp := lpart_mono L b c t (V - t)
      rw [show t + (V - t) = V by omega] at hlp
      have hMb : M ≤ 4398046511103 := by have := HMM.out; rw [HV.out] at this; rw [hM, List.length_append]; omega
      have HMT2 := meet_of HTLt.out b HLL.out cu hcL HKL.out bk0 M hMb (.slice P2 M kc2) _ (Nat.le_trans hbk hgt.fr.size) HOT.out HAPt.out
      have hcu3 := and_mod b hb cu hck L.length HLL.out
      have HS5 : Hid _ := HSI.out 1 wr _ _ _ HTLt.out.c
      obtain ⟨iy, hiy⟩ : ∃ iy, cu % L.length = iy := ⟨_, rfl⟩
      rw [hiy] at hcu3 HMT2
      have HMK2 : Hid _ := HMT2
      have HNX := next_any cu b hck (by omega) hb
      rw [← HLL.out] at HNX
      have HN1 : nextC b cu = itN b (t + 1) c := by rw [hcu2]; rfl
      have hNl : itN b (t + 1) c < 2 ^ b := itN_lt b (by omega) c t
      have hand := and_low a b hab hb (itN b (t + 1) c) hNl
      have hiff := vlen_end a b c t (by rw [HV.out]; exact ht)
      have hR1 := itN_R b (by omega) c (t + 1)
      have hzero := and_zero a b hab (itN b (t + 1) c) hNl
      have hlow := low_iff a b hab (by omega) (itN b (t + 1) c) hNl
      have hmm : Rj b (itN b (t + 1) c) % 2 ^ (b - a) = (Rj b c + (t + 1)) % 2 ^ (b - a) := by
        rw [hR1, pow_split a b hab, Nat.mod_mul_right_mod]
      have HDEC : Hid (itN b (t + 1) c &&& (2 ^ b - 2 ^ a) = 0 ↔ t + 1 = V) := by
        show _ ↔ _
        rw [hzero, ← hlow, hmm, hiff, HV.out]
      have hsubn : ((nL : Int) - (nS : Int)) = ((2 ^ b - 2 ^ a : Nat) : Int) := by have := HSL.out; have := HLL.out; have := HNS.out; have := HNL.out; omega
      rw [HN1] at HNX
      rw [HNL.out] at HNX hcu3 HS5
      rw [← hsubn] at hand
      have HNXH : Hid _ := HNX
      have HSS := HSI.out 3 wr _ _ _ HTSt.out.c
      have HREC : Hid (lpart L b (t + 1) c = lpart L b t c ++ bk L b cu) := by show _ = _; rw [hcu2]; rfl
      have HNR : Hid (t + 1 < V → Rj b (itN b (t + 1) c) = Rj b c + (t + 1)) := fun hlt => by rw [hR1, Nat.mod_eq_of_lt (by have := HQ.out; omega)]
      have HRT : Hid _ := hRt
      have hN2 : itN b (t + 1) c ≤ 9223372036854775807 := itN_le b hb c (t + 1) hcb
      clear HNX HMT2 hiff hR1 hzero hlow hmm HN1 hNl hcu2 hiy hot hRt hlp hM HSS hsubn
      obtain ⟨nc, hnc⟩ : ∃ nc, itN b (t + 1) c = nc := ⟨_, rfl⟩
      rw [hnc] at hand HNXH HDEC HNR hN2
      have HNC : Hid _ := hnc
      generalize hAV : nc &&& (2 ^ b - 2 ^ a) = AV at *
      clear hnc hAV
      have hwl : IntKind.i64.wrap ((nL : Int) - 1) = (nL : Int) - 1 := by rw [IntKind.wrap_i64] <;> omega
      have hwd : IntKind.i64.wrap ((nL : Int) - (nS : Int)) = (nL : Int) - (nS : Int) := by rw [IntKind.wrap_i64] <;> omega
      clear hwn hcu hgt hblk
      go_wp2_with fail
      refine (show Calls _ _ _ _ _ from HS5.out).mono ?_
      rintro e w4 ⟨rfl, rfl⟩
      go_wp2_with fail
      refine (show Calls _ _ _ _ _ from HMK2.out).mono ?_
      rintro e w5 ⟨r5, rfl, ho5, hg5⟩
      have HG5 : Hid (Grew w1 w5 (.slice P m kc) r5) := HGT.out.trans hg5
      have hblk5 : ∀ q ∈ F, w5.heap[q]? = w1.heap[q]? := fun q hq => HG5.out.fr.block q (HDL.out q hq) (fun e => HAP.out q hq e.symm)
      have HTL5 := HTL.out.keep hblk5
      have HTS5 := HTS.out.keep hblk5
      have HS6 : Hid _ := HSI.out 1 w5 _ _ _ HTL5.c
      have HS7 : Hid _ := HSI.out 3 w5 _ _ _ HTS5.c
      rw [HNL.out] at HS6
      rw [HNS.out] at HS7
      have HO5 : Hid (w5.ownsRow bk0 9 1 r5 (M + (bk L b cu).length) (xs ++ keyV (bk S a c ++ lpart L b (t + 1) c))) := by
        show World.ownsRow _ _ _ _ _ _ _
        rw [HREC.out, ← List.append_assoc, keyV_app, ← List.append_assoc]; exact ho5
      have HM5 : Hid (M + (bk L b cu).length = m + (bk S a c ++ lpart L b (t + 1) c).length) := by
        show _ = _
        have q := HM.out
        rw [HREC.out, ← List.append_assoc, List.length_append, q]; omega
      clear ho5 hg5 hblk5 HTL5 HTS5
      go_wp2_with fail
      refine (show Calls _ _ _ _ _ from HS6.out).mono ?_
      rintro e w6 ⟨rfl, rfl⟩
      go_wp2_with fail
      refine (show Calls _ _ _ _ _ from HNXH.out _).mono ?_
      rintro e w6 ⟨rfl, rfl⟩
      go_wp2_with fail
      refine (show Calls _ _ _ _ _ from HS6.out).mono ?_
      rintro e w6 ⟨rfl, rfl⟩
      go_wp2_with fail
      refine (show Calls _ _ _ _ _ from HS7.out).mono ?_
      rintro e w6 ⟨rfl, rfl⟩
      by_cases hend : t + 1 = V
      · have hav : AV = 0 := HDEC.out.2 hend
        subst hav
        have HFI : Hid (nc = nextC a c) := by
          show _ = _
          rw [← HNC.out, hend, ← HV.out]; exact cur_end a b c hab (by omega)
        have HHE : Hid _ := hend
        clear hend
        go_wp2
        go_returns
        refine ⟨r5, by rw [← HFI.out]; rfl, ?_, HG5.out⟩
        rw [HV.out, ← HHE.out, ← HM5.out]; exact HO5.out
      · have hav : ¬ AV = 0 := fun e => hend (HDEC.out.1 e)
        have havi : ((AV : Int) == 0) = false := by simpa using hav
        have hlt2 : t + 1 < V := by omega
        have HNR2 : Hid _ := HNR.out hlt2
        go_wp2
        go_roundw
        case rel => exact ⟨t + 1, nc, _, hlt2, HNC.out.symm, rfl, HM5.out, HO5.out, HG5.out⟩
        case measure =>
          simp only [intOf, Int.toNat_natCast]
          rw [HNR2.out, HRT.out]; omega
end Go.Proofs.Ytdemodhjlbkbeab
namespace Go.Proofs.Ytdemodhjlbkbeab
open Go.RowKit
set_option linter.unusedVariables false
def smD (D : DS) : List (List Ent) := if D.T2 = [] ∨ D.T1.length ≤ D.T2.length then D.T1 else D.T2
def lgD (D : DS) : List (List Ent) := if D.T1.length ≤ D.T2.length then D.T2 else D.T1
def aD (D : DS) : Nat := Nat.log2 (smD D).length
def bD (D : DS) : Nat := Nat.log2 (lgD D).length
def visL (D : DS) (c : Nat) : List Ent := if D.T2 = [] then bk D.T1 (aD D) c else bk (smD D) (aD D) c ++ lpart (lgD D) (bD D) (vlen (aD D) (bD D) c) c
/-- what is known of the two tables of a dict. -/
structure Shape (D : DS) : Prop where
  a2 : 2 ≤ aD D
  a42 : aD D ≤ 42
  sl : (smD D).length = 2 ^ aD D
  ws : TWf D.seed (smD D)
theorem T2_pow {D : DS} (h : DInv D) (hne : D.T2 ≠ []) : ∃ j, 2 ≤ j ∧ j ≤ 42 ∧ D.T2.length = 2 ^ j := by
  rcases h.wf2.pow with e | ⟨j, h1, h2⟩
  · exact absurd e hne
  · refine ⟨j, h1, ?_, h2⟩
    have hl := h.sz2
    rw [h2] at hl
    rcases Nat.lt_or_ge 42 j with h3 | h3
    · have : 2 ^ 43 ≤ 2 ^ j := Nat.pow_le_pow_right (by omega) h3
      omega
    · exact h3
theorem T1_ne {D : DS} (h : DInv D) (hm : D.T2 ≠ []) : D.T1 ≠ [] := fun e => by
  have := h.mv hm
  rw [e] at this
  simp [cnt] at this
theorem shape {D : DS} (h : DInv D) (hne : D.T1 ≠ []) : Shape D := by
  obtain ⟨j1, p1, p2, p3⟩ := T1_pow h hne
  by_cases hm : D.T2 = [] ∨ D.T1.length ≤ D.T2.length
  · have e : smD D = D.T1 := by unfold smD; rw [if_pos hm]
    have ea : aD D = j1 := by unfold aD; rw [e, p3, Nat.log2_two_pow]
    exact ⟨by omega, by omega, by rw [e, ea, p3], by rw [e]; exact h.wf1⟩
  · have e : smD D = D.T2 := by unfold smD; rw [if_neg hm]
    rw [not_or] at hm
    obtain ⟨j2, q1, q2, q3⟩ := T2_pow h hm.1
    have ea : aD D = j2 := by unfold aD; rw [e, q3, Nat.log2_two_pow]
    exact ⟨by omega, by omega, by rw [e, ea, q3], by rw [e]; exact h.wf2⟩
structure Shape2 (D : DS) : Prop where
  ab : aD D ≤ bD D
  b42 : bD D ≤ 42
  ll : (lgD D).length = 2 ^ bD D
  wl : TWf D.seed (lgD D)
  all : D.all.Perm ((smD D).flatten ++ (lgD D).flatten)
theorem shape2 {D : DS} (h : DInv D) (hm : D.T2 ≠ []) : Shape2 D := by
  have hne := T1_ne h hm
  obtain ⟨j1, p1, p2, p3⟩ := T1_pow h hne
  obtain ⟨j2, q1, q2, q3⟩ := T2_pow h hm
  by_cases hl : D.T1.length ≤ D.T2.length
  · have e : smD D = D.T1 := by unfold smD; rw [if_pos (Or.inr hl)]
    have e2 : lgD D = D.T2 := by unfold lgD; rw [if_pos hl]
    have ea : aD D = j1 := by unfold aD; rw [e, p3, Nat.log2_two_pow]
    have eb : bD D = j2 := by unfold bD; rw [e2, q3, Nat.log2_two_pow]
    refine ⟨?_, by omega, by rw [e2, eb, q3], by rw [e2]; exact h.wf2, by rw [e, e2]; exact List.Perm.refl _⟩
    rw [ea, eb]
    rw [p3, q3] at hl
    exact (Nat.pow_le_pow_iff_right (by omega)).1 hl
  · have e : smD D = D.T2 := by unfold smD; rw [if_neg (by rw [not_or]; exact ⟨hm, hl⟩)]
    have e2 : lgD D = D.T1 := by unfold lgD; rw [if_neg hl]
    have ea : aD D = j2 := by unfold aD; rw [e, q3, Nat.log2_two_pow]
    have eb : bD D = j1 := by unfold bD; rw [e2, p3, Nat.log2_two_pow]
    refine ⟨?_, by omega, by rw [e2, eb, p3], by rw [e2]; exact h.wf1, by rw [e, e2]; exact List.perm_append_comm⟩
    rw [ea, eb]
    rw [p3, q3] at hl
    exact (Nat.pow_le_pow_iff_right (a := 2) (by omega)).1 (by omega)
abbrev hk (D : DS) (e : Ent) : Nat := hN D.seed e.1
theorem nd_sm {D : DS} (h : DInv D) (T : List (List Ent)) (hT : T = D.T1 ∨ T = D.T2) : (T.flatten.map (·.1)).Nodup := by
  have := h.nd
  unfold DS.all at this
  rw [List.map_append] at this
  rcases hT with rfl | rfl
  · exact (List.nodup_append.1 this).1
  · exact (List.nodup_append.1 this).2.1
theorem sm_or (D : DS) : smD D = D.T1 ∨ smD D = D.T2 := by unfold smD; split; exact Or.inl rfl; exact Or.inr rfl
theorem lg_or (D : DS) : lgD D = D.T1 ∨ lgD D = D.T2 := by unfold lgD; split; exact Or.inr rfl; exact Or.inl rfl
theorem filter_sub {α : Type} (l : List α) (p q : α → Bool) (h : ∀ x, p x = true → q x = true) : (l.filter p).Sublist (l.filter q) := by
  induction l with
  | nil => exact List.Sublist.refl _
  | cons a l ih =>
    rw [List.filter_cons, List.filter_cons]
    rcases hp : p a with _ | _
    · rcases hq : q a with _ | _
      · simpa using ih
      · simpa using ih.cons a
    · rw [h a hp]; simpa using ih
/-- what a visit meets, as a list of all that it may meet. -/
theorem visL_perm {D : DS} (h : DInv D) (hne : D.T1 ≠ []) (c : Nat) : ∃ l : List Ent, (visL D c).Perm l ∧ l.Sublist ((smD D).flatten.filter (fun e => decide (Rj (aD D) (hk D e) = Rj (aD D) c)) ++ (if D.T2 = [] then [] else (lgD D).flatten.filter (fun e => decide (Rj (aD D) (hk D e) = Rj (aD D) c)))) ∧
    (∀ e ∈ D.all, Rj (aD D) (hk D e) = Rj (aD D) c → revN c ≤ revN (hk D e) → e ∈ visL D c) ∧ (c < 2 ^ aD D → (visL D c).Perm (D.all.filter (fun e => decide (Rj (aD D) (hk D e) = Rj (aD D) c)))) := by
  have hs := shape h hne
  unfold visL
  have hbs := bk_perm hs.ws (nd_sm h _ (sm_or D)) (aD D) (by have := hs.a42; omega) hs.sl c
  by_cases hm : D.T2 = []
  · rw [if_pos hm, if_pos hm]
    have e : smD D = D.T1 := by unfold smD; rw [if_pos (Or.inl hm)]
    rw [e] at hbs ⊢
    have hall : D.all = D.T1.flatten := by unfold DS.all; rw [hm]; simp
    refine ⟨_, hbs, by rw [List.append_nil]; exact List.Sublist.refl _, fun x hx hr _ => ?_, fun _ => by rw [hall]; exact hbs⟩
    rw [hall] at hx
    exact hbs.mem_iff.2 (List.mem_filter.2 ⟨hx, by simpa using hr⟩)
  · rw [if_neg hm, if_neg hm]
    have h2 := shape2 h hm
    have hb42 := h2.b42
    have hab := h2.ab
    have hq := vlen_le (aD D) (bD D) c hab (by omega)
    have hlp := lpart_perm h2.wl (nd_sm h _ (lg_or D)) (bD D) (by omega) h2.ll c (vlen (aD D) (bD D) c) hq
    have hd := Nat.two_pow_pos (bD D - aD D)
    have hdiv : ∀ x, Rj (aD D) x = Rj (bD D) x / 2 ^ (bD D - aD D) := fun x => Rj_div (aD D) (bD D) hab (by omega) x
    have key : ∀ x, Rj (bD D) c ≤ Rj (bD D) x → (Rj (bD D) x < Rj (bD D) c + vlen (aD D) (bD D) c ↔ Rj (aD D) x = Rj (aD D) c) := by
      intro x hx
      rw [hdiv, hdiv]
      unfold vlen
      have h3 := Nat.div_add_mod (Rj (bD D) c) (2 ^ (bD D - aD D))
      have h4 := Nat.mod_lt (Rj (bD D) c) hd
      have h5 := Nat.div_add_mod (Rj (bD D) x) (2 ^ (bD D - aD D))
      have h6 := Nat.mod_lt (Rj (bD D) x) hd
      have hmono : Rj (bD D) c / 2 ^ (bD D - aD D) ≤ Rj (bD D) x / 2 ^ (bD D - aD D) := Nat.div_le_div_right hx
      generalize Rj (bD D) c / 2 ^ (bD D - aD D) = A at *
      generalize Rj (bD D) x / 2 ^ (bD D - aD D) = B at *
      generalize Rj (bD D) c % 2 ^ (bD D - aD D) = p at *
      generalize Rj (bD D) x % 2 ^ (bD D - aD D) = q at *
      generalize 2 ^ (bD D - aD D) = d at *
      constructor
      · intro hlt
        rcases Nat.lt_or_ge A B with h7 | h7
        · have : d * (A + 1) ≤ d * B := Nat.mul_le_mul_left _ h7
          rw [Nat.mul_add, Nat.mul_one] at this
          omega
        · omega
      · intro e; subst e; omega
    refine ⟨_, List.Perm.append hbs hlp, ?_, fun x hx hr hp => ?_, fun hc => ?_⟩
    · refine List.Sublist.append_left ?_ _
      refine filter_sub _ _ _ (fun x hx => ?_)
      simp only [Bool.and_eq_true, decide_eq_true_eq] at hx ⊢
      exact (key _ hx.1).1 hx.2
    · rcases List.mem_append.1 (h2.all.mem_iff.1 hx) with hx | hx
      · exact List.mem_append_left _ (hbs.mem_iff.2 (List.mem_filter.2 ⟨hx, by simpa using hr⟩))
      · refine List.mem_append_right _ (hlp.mem_iff.2 (List.mem_filter.2 ⟨hx, ?_⟩))
        have hle : Rj (bD D) c ≤ Rj (bD D) (hk D x) := Nat.div_le_div_right hp
        simp only [Bool.and_eq_true, decide_eq_true_eq]
        exact ⟨hle, (key _ hle).2 hr⟩
    · refine (List.Perm.append hbs hlp).trans ?_
      refine List.Perm.trans ?_ (h2.all.filter _).symm
      rw [List.filter_append]
      refine List.Perm.append_left _ ?_
      have hcb : c < 2 ^ bD D := Nat.lt_of_lt_of_le hc (Nat.pow_le_pow_right (by omega) hab)
      have h0 := (low_iff (aD D) (bD D) hab (by omega) c hcb).2 hc
      have e : (fun e : Ent => decide (Rj (bD D) c ≤ Rj (bD D) (hN D.seed e.1)) && decide (Rj (bD D) (hN D.seed e.1) < Rj (bD D) c + vlen (aD D) (bD D) c)) = (fun e : Ent => decide (Rj (aD D) (hk D e) = Rj (aD D) c)) := by
        funext x
        rw [Bool.eq_iff_iff]
        simp only [Bool.and_eq_true, decide_eq_true_eq]
        constructor
        · intro hx; exact (key _ hx.1).1 hx.2
        · intro hr
          have hle : Rj (bD D) c ≤ Rj (bD D) (hN D.seed x.1) := by
            have h3 := Nat.div_add_mod (Rj (bD D) c) (2 ^ (bD D - aD D))
            have h5 := Nat.div_add_mod (Rj (bD D) (hN D.seed x.1)) (2 ^ (bD D - aD D))
            have hr2 : Rj (bD D) (hN D.seed x.1) / 2 ^ (bD D - aD D) = Rj (bD D) c / 2 ^ (bD D - aD D) := by rw [← hdiv, ← hdiv]; exact hr
            rw [hr2] at h5
            omega
          exact ⟨hle, (key _ hle).2 hr⟩
      rw [e]
/-- many visits. -/
def visN (D : DS) (c : Nat) : Nat → List Ent
  | 0 => []
  | t + 1 => visN D c t ++ visL D (itN (aD D) t c)
def inR (D : DS) (lo hi : Nat) : Ent → Bool := fun e => decide (lo ≤ Rj (aD D) (hk D e)) && decide (Rj (aD D) (hk D e) < hi)
theorem visL_le {D : DS} (h : DInv D) (hne : D.T1 ≠ []) (c : Nat) : (visL D c).length ≤ (D.all.filter (fun e => decide (Rj (aD D) (hk D e) = Rj (aD D) c))).length ∧ (∀ e ∈ visL D c, e ∈ D.all) := by
  obtain ⟨l, p1, p2, _⟩ := visL_perm h hne c
  have hq : ((smD D).flatten.filter (fun e => decide (Rj (aD D) (hk D e) = Rj (aD D) c)) ++ (if D.T2 = [] then [] else (lgD D).flatten.filter (fun e => decide (Rj (aD D) (hk D e) = Rj (aD D) c)))).Perm (D.all.filter (fun e => decide (Rj (aD D) (hk D e) = Rj (aD D) c))) := by
    by_cases hm : D.T2 = []
    · rw [if_pos hm, List.append_nil]
      have e : smD D = D.T1 := by unfold smD; rw [if_pos (Or.inl hm)]
      have hall : D.all = D.T1.flatten := by unfold DS.all; rw [hm]; simp
      rw [e, hall]
    · rw [if_neg hm, ← List.filter_append]
      exact ((shape2 h hm).all.filter _).symm
  refine ⟨?_, fun e he => ?_⟩
  · rw [p1.length_eq, ← hq.length_eq]; exact p2.length_le
  · exact (List.mem_filter.1 (hq.mem_iff.1 (p2.subset (p1.mem_iff.1 he)))).1
theorem visN_ok {D : DS} (h : DInv D) (hne : D.T1 ≠ []) (c : Nat) : ∀ t, Rj (aD D) c + t ≤ 2 ^ aD D →
    (visN D c t).length ≤ (D.all.filter (inR D (Rj (aD D) c) (Rj (aD D) c + t))).length ∧ (∀ e ∈ visN D c t, e ∈ D.all) ∧ (∀ e ∈ D.all, revN c ≤ revN (hk D e) → Rj (aD D) (hk D e) < Rj (aD D) c + t → e ∈ visN D c t) ∧ (c < 2 ^ aD D → (visN D c t).Perm (D.all.filter (inR D (Rj (aD D) c) (Rj (aD D) c + t))))
  | 0, _ => by
    have e : D.all.filter (inR D (Rj (aD D) c) (Rj (aD D) c + 0)) = [] := by
      rw [List.filter_eq_nil_iff]
      intro x _ hx
      simp [inR] at hx
      omega
    refine ⟨by simp [visN], fun e he => by simp [visN] at he, fun x _ hp hr => ?_, fun _ => by rw [e]; exact List.Perm.refl _⟩
    have : Rj (aD D) c ≤ Rj (aD D) (hk D x) := Nat.div_le_div_right hp
    omega
  | t + 1, ht => by
    have hs := shape h hne
    have ha := hs.a42
    obtain ⟨i1, i2, i3, i4⟩ := visN_ok h hne c t (by omega)
    have hR := itN_R (aD D) (by omega) c t
    rw [Nat.mod_eq_of_lt (by omega)] at hR
    have hspl := filter_split D.all (inR D (Rj (aD D) c) (Rj (aD D) c + (t + 1))) (inR D (Rj (aD D) c) (Rj (aD D) c + t)) (fun e => decide (Rj (aD D) (hk D e) = Rj (aD D) (itN (aD D) t c))) (fun x => by
      unfold inR
      rw [Bool.eq_iff_iff]
      simp only [Bool.and_eq_true, Bool.or_eq_true, decide_eq_true_eq]
      omega) (fun x hx => by
      unfold inR at hx
      simp only [Bool.and_eq_true, decide_eq_true_eq] at hx
      simp only [decide_eq_false_iff_not]
      omega)
    obtain ⟨v1, v2⟩ := visL_le h hne (itN (aD D) t c)
    obtain ⟨_, _, _, v3, v4⟩ := visL_perm h hne (itN (aD D) t c)
    refine ⟨?_, fun e he => ?_, fun x hx hp hr => ?_, fun hc => ?_⟩
    · rw [hspl.length_eq]
      show (visN D c t ++ visL D (itN (aD D) t c)).length ≤ _
      rw [List.length_append, List.length_append]; omega
    · rcases List.mem_append.1 he with he | he
      · exact i2 e he
      · exact v2 e he
    · rcases Nat.lt_or_ge (Rj (aD D) (hk D x)) (Rj (aD D) c + t) with h1 | h1
      · exact List.mem_append_left _ (i3 x hx hp h1)
      · refine List.mem_append_right _ (v3 x hx (by omega) ?_)
        cases t with
        | zero => exact hp
        | succ t =>
          have hlt := itN_lt (aD D) (by omega) c t
          have e1 : revN (itN (aD D) (t + 1) c) = Rj (aD D) (itN (aD D) (t + 1) c) * 2 ^ (64 - aD D) := by
            show revN (nextC (aD D) (itN (aD D) t c)) = _
            unfold nextC
            rw [revN_revN _ (y_lt _ (by omega) _)]
            congr 1
            have := next_R (aD D) (by omega) (itN (aD D) t c)
            unfold nextC at this
            exact this.symm
          rw [e1, hR]
          have e2 : Rj (aD D) (hk D x) * 2 ^ (64 - aD D) ≤ revN (hk D x) := Nat.div_mul_le_self _ _
          exact Nat.le_trans (Nat.mul_le_mul_right _ h1) e2
    · have hal : itN (aD D) t c < 2 ^ aD D := by
        cases t with
        | zero => exact hc
        | succ t => exact itN_lt (aD D) (by omega) c t
      exact (List.Perm.append (i4 hc) (v4 hal)).trans hspl.symm
/-- a visit. -/
theorem Visit_any (g : Nat) (F : List Nat) (D : DS) (hD : DInv D) (hne : D.T1 ≠ []) (hcc : cnt D.T1 + cnt D.T2 ≤ 4398046511000) (c : Nat) (hcb : c ≤ 9223372036854775807) (bk0 m : Nat) (hm : m + (visL D c).length ≤ 4398046511103) (kv : Value) (xs : List Value) (w : World) (hbk : bk0 ≤ w.heap.size) (hkv : w.ownsRow bk0 9 1 kv m xs) (hap : ∀ q ∈ F, kv.ownBlock ≠ some q) (h : DI w g F D) :
    Calls Try.prog 40 #[.pointer (some ⟨g, 0, none⟩), kv, .int .i64 (c : Int)] w fun e w' => ∃ r, e = .returned (.tuple #[r, .int .i64 (nextC (aD D) c : Nat)]) ∧ w'.ownsRow bk0 9 1 r (m + (visL D c).length) (xs ++ keyV (visL D c)) ∧ Grew w w' kv r := by
  have hs := shape hD hne
  have ha2 := hs.a2
  have ha42 := hs.a42
  unfold visL at hm ⊢
  by_cases hm2 : D.T2 = []
  · rw [if_pos hm2] at hm ⊢
    have e : smD D = D.T1 := by unfold smD; rw [if_pos (Or.inl hm2)]
    have hsl := hs.sl
    rw [e] at hsl
    exact visit_still g F D hD hm2 hne (aD D) (by omega) ha42 hsl (by omega) c hcb bk0 m (by omega) kv xs w hbk hkv hap h
  · rw [if_neg hm2] at hm ⊢
    have h2 := shape2 hD hm2
    have hkey : ∀ T, T = D.T1 ∨ T = D.T2 → ∀ e ∈ T.flatten, e.1.size ≤ 281474976710656 := fun T hT e he => hD.keys e (by
      rcases hT with rfl | rfl
      · exact List.mem_append_left _ he
      · exact List.mem_append_right _ he)
    have hcn : ∀ T, T = D.T1 ∨ T = D.T2 → cnt T ≤ 4398046511000 := fun T hT => by rcases hT with rfl | rfl <;> omega
    by_cases hl : D.T1.length ≤ D.T2.length
    · have e : smD D = D.T1 := by unfold smD; rw [if_pos (Or.inr hl)]
      have e2 : lgD D = D.T2 := by unfold lgD; rw [if_pos hl]
      exact visit_moving g F D hD 1 3 (smD D) (lgD D) (Or.inl ⟨rfl, rfl, e, e2, hl⟩) hm2 hne (aD D) (bD D) (by omega) h2.ab h2.b42 hs.sl h2.ll (hcn _ (sm_or D)) (hcn _ (lg_or D)) hs.ws h2.wl (nd_sm hD _ (lg_or D)) (hkey _ (sm_or D)) (hkey _ (lg_or D)) c hcb bk0 m hm kv xs w hbk hkv hap h
    · have e : smD D = D.T2 := by unfold smD; rw [if_neg (by rw [not_or]; exact ⟨hm2, hl⟩)]
      have e2 : lgD D = D.T1 := by unfold lgD; rw [if_neg hl]
      exact visit_moving g F D hD 3 1 (smD D) (lgD D) (Or.inr ⟨rfl, rfl, e, e2, by omega⟩) hm2 hne (aD D) (bD D) (by omega) h2.ab h2.b42 hs.sl h2.ll (hcn _ (sm_or D)) (hcn _ (lg_or D)) hs.ws h2.wl (nd_sm hD _ (lg_or D)) (hkey _ (sm_or D)) (hkey _ (lg_or D)) c hcb bk0 m hm kv xs w hbk hkv hap h
end Go.Proofs.Ytdemodhjlbkbeab
namespace Go.Proofs.Ytdemodhjlbkbeab
open Go.RowKit
set_option linter.unusedVariables false
theorem it_zero {a : Nat} (ha : a ≤ 64) (c t : Nat) (h : Rj a c + (t + 1) ≤ 2 ^ a) : itN a (t + 1) c = 0 ↔ Rj a c + (t + 1) = 2 ^ a := by
  have hlt := itN_lt a ha c t
  have hR := itN_R a ha c (t + 1)
  rw [← Rj_nz a ha _ hlt, hR]
  rcases Nat.lt_or_eq_of_le h with h1 | h1
  · rw [Nat.mod_eq_of_lt h1]; omega
  · rw [h1, Nat.mod_self]; omega
/-- what Scan tells: so many visits. -/
structure ScanIs (D : DS) (c : Nat) (n : Int) (t : Nat) : Prop where
  pos : 1 ≤ t
  le : Rj (aD D) c + t ≤ 2 ^ aD D
  stop : itN (aD D) t c = 0 ∨ max n 1 ≤ ((visN D c t).length : Int)
  first : ∀ s, 1 ≤ s → s < t → itN (aD D) s c ≠ 0 ∧ ((visN D c s).length : Int) < max n 1
theorem ScanIs.one {D : DS} {c : Nat} {n : Int} {t s : Nat} (h : ScanIs D c n t) (g : ScanIs D c n s) : t = s := by
  rcases Nat.lt_trichotomy t s with hl | hl | hl
  · have h1 := g.first t h.pos hl
    rcases h.stop with h2 | h2
    · exact absurd h2 h1.1
    · omega
  · exact hl
  · have h1 := h.first s g.pos hl
    rcases g.stop with h2 | h2
    · exact absurd h2 h1.1
    · omega
theorem visN_cnt {D : DS} (h : DInv D) (hne : D.T1 ≠ []) (c t : Nat) (ht : Rj (aD D) c + t ≤ 2 ^ aD D) : (visN D c t).length ≤ cnt D.T1 + cnt D.T2 := by
  rw [← DS.all_len]
  exact Nat.le_trans (visN_ok h hne c t ht).1 (List.length_filter_le _ _)
set_option maxHeartbeats 1000000 in
set_option maxRecDepth 100000 in
theorem Scan_none (g : Nat) (F : List Nat) (D : DS) (hne : D.T1 = []) (z n : Int) (w : World) (h : DI w g F D) :
    Calls Try.prog 13 #[.pointer (some ⟨g, 0, none⟩), .int .i64 z, .int .i64 n] w fun e w' => e = .returned (.tuple #[.slice none 0 0, .int .i64 0]) ∧ w' = w := by
  obtain ⟨v1, v2, L1, L2, h1, h2, h3, rfl, h4⟩ := h
  obtain ⟨P, k, rfl⟩ := h2.form
  have c1 := (row6 h1).2.1
  rw [hne] at c1
  have HSZ : Hid _ := size_any g 1 P 0 k w c1
  clear h1 h2 h3 h4 c1 hne
  go_enter Try.func13, Try.ntmps13
  go_wp2_with fail
  refine (show Calls _ _ _ _ _ from HSZ.out).mono ?_
  rintro e w1 ⟨rfl, rfl⟩
  go_wp2
  go_returns
  exact ⟨rfl, rfl⟩
set_option maxHeartbeats 2000000 in
set_option maxRecDepth 100000 in
theorem Scan_any (g : Nat) (F : List Nat) (D : DS) (hD : DInv D) (hne : D.T1 ≠ []) (hcc : cnt D.T1 + cnt D.T2 ≤ 4398046511000) (z : Int) (c : Nat) (hzc : max z 0 = (c : Int)) (hcb : c ≤ 9223372036854775807) (n : Int) (hn : -9223372036854775808 ≤ n ∧ n ≤ 9223372036854775807) (w : World) (h : DI w g F D) :
    Calls Try.prog 13 #[.pointer (some ⟨g, 0, none⟩), .int .i64 z, .int .i64 n] w fun e w' => ∃ t r, ScanIs D c n t ∧ e = .returned (.tuple #[r, .int .i64 (itN (aD D) t c : Nat)]) ∧ w'.ownsRow w.heap.size 9 1 r (visN D c t).length (keyV (visN D c t)) ∧ Below w.heap.size w w' := by
  have hs := shape hD hne
  have ha42 := hs.a42
  have ha2 := hs.a2
  obtain ⟨v1, v2, L1, L2, h1, h2, h3, hF, h4⟩ := id h
  obtain ⟨P, k, rfl⟩ := h2.form
  have c1 := (row6 h1).2.1
  have hl0 := List.length_pos_iff.2 hne
  have HSZ := size_any g 1 P D.T1.length k w c1
  have hl0e : ((D.T1.length : Int) == 0) = false := by simp; omega
  have HSZH : Hid _ := HSZ
  have HD : Hid (DInv D) := hD
  have HI : Hid (DI w g F D) := h
  have HNE : Hid (D.T1 ≠ []) := hne
  have HR0 := Rj_lt (aD D) (by omega) c
  have HRL : Hid _ := HR0
  have hmx : (if z < 0 then (0 : Int) else z) = (c : Int) := by split <;> omega
  have hmn : (if n < 1 then (1 : Int) else n) = max n 1 := by split <;> omega
  clear h h1 h2 h3 hF h4 c1 HSZ hne hD HR0 hs hl0
  generalize D.T1.length = N1 at *
  go_enter Try.func13, Try.ntmps13
  go_wp2_with fail
  refine (show Calls _ _ _ _ _ from HSZH.out).mono ?_
  rintro e w1 ⟨rfl, rfl⟩
  go_wp2
  go_loopw [8, 1] (fun ck cz wr => ∃ (t cu M : Nat), (∀ s, 1 ≤ s → s < t + 1 → itN (aD D) s c ≠ 0 ∧ ((visN D c s).length : Int) < max n 1) ∧ Rj (aD D) c + t < 2 ^ aD D ∧ cu = itN (aD D) t c ∧ cz = .int .i64 (cu : Int) ∧ M = (visN D c t).length ∧ wr.ownsRow w1.heap.size 9 1 ck M (keyV (visN D c t)) ∧ Grew w1 wr (.slice none 0 0) ck) (fun _ cz _ => 2 ^ aD D - Rj (aD D) (intOf cz).toNat)
  case atStart => exact ⟨0, c, 0, fun s h1 h2 => by omega, by have := HRL.out; omega, rfl, rfl, rfl, ⟨rfl, Or.inl ⟨rfl, rfl⟩⟩, Grew.refl _ _⟩
  case round =>
    obtain ⟨t, cu, M, hfs, htl, hcu, rfl, hM, hot, hgt⟩ := hrel
    have HFS : Hid (∀ s, 1 ≤ s → s < t + 1 → itN (aD D) s c ≠ 0 ∧ ((visN D c s).length : Int) < max n 1) := hfs
    clear hfs
    have hck : cu ≤ 9223372036854775807 := by rw [hcu]; exact itN_le (aD D) ha42 c t hcb
    have HDt : Hid (DI wr g F D) := hgt.di HI.out (fun q _ e => by cases e)
    have hap : ∀ q ∈ F, Value.ownBlock _ ≠ some q := fun q hq => hgt.ne_own (HI.out.lt q hq) (fun e => by cases e)
    have hcn := visN_cnt HD.out HNE.out c (t + 1) (by omega)
    have hlen : (visN D c (t + 1)).length = M + (visL D cu).length := by
      show (visN D c t ++ visL D (itN (aD D) t c)).length = _
      rw [List.length_append, hM, hcu]
    have HVI := Visit_any g F D HD.out HNE.out hcc cu hck w1.heap.size M (by omega) _ _ wr hgt.fr.size hot hap HDt.out
    have HVI2 : Hid _ := HVI
    have HGT : Hid (Grew w1 wr (.slice none 0 0) _) := hgt
    have HZ := it_zero (a := aD D) (by omega) c t (by omega)
    have hnc : nextC (aD D) cu = itN (aD D) (t + 1) c := by rw [hcu]; rfl
    have hR0 := itN_R (aD D) (by omega) c t
    rw [Nat.mod_eq_of_lt htl, ← hcu] at hR0
    have hR1 := itN_R (aD D) (by omega) c (t + 1)
    rw [hnc] at HVI2
    have hnb := itN_le (aD D) ha42 c (t + 1) hcb
    have HLEN : Hid _ := hlen
    have HTL : Hid (Rj (aD D) c + (t + 1) ≤ 2 ^ aD D) := htl
    have HCUE : Hid _ := hcu
    obtain ⟨P8, k8, hkf⟩ := own_form hot
    subst hkf
    obtain ⟨nc, hnce⟩ : ∃ nc, itN (aD D) (t + 1) c = nc := ⟨_, rfl⟩
    have HNC : Hid _ := hnce
    have HRC : Hid (nc ≠ 0 → Rj (aD D) nc = Rj (aD D) c + (t + 1)) := fun hz => by
      rw [← hnce, hR1]
      refine Nat.mod_eq_of_lt ?_
      have : ¬ Rj (aD D) c + (t + 1) = 2 ^ aD D := fun e => hz (by rw [← hnce]; exact HZ.2 e)
      omega
    have HRZ : Hid (nc ≠ 0 → Rj (aD D) c + (t + 1) < 2 ^ aD D) := fun hz => by
      have : ¬ Rj (aD D) c + (t + 1) = 2 ^ aD D := fun e => hz (by rw [← hnce]; exact HZ.2 e)
      omega
    have HR00 : Hid _ := hR0
    rw [hnce] at HVI2 hnb
    clear hot hgt hap HVI HZ hnc hR0 hR1 hnce hM hcu hlen htl
    obtain ⟨VL, hVL⟩ : ∃ VL, (visL D cu).length = VL := ⟨_, rfl⟩
    have HVL : Hid _ := hVL
    rw [hVL] at HVI2
    have hM2 : M + VL ≤ 4398046511000 := by have := HLEN.out; omega
    clear hcn hVL
    go_wp2_with fail
    refine (show Calls _ _ _ _ _ from HVI2.out).mono ?_
    rintro e w5 ⟨r5, rfl, ho5, hg5⟩
    have HO5 : Hid (w5.ownsRow w1.heap.size 9 1 r5 (M + VL) (keyV (visN D c (t + 1)))) := by
      show World.ownsRow _ _ _ _ _ _ _
      have e : visN D c (t + 1) = visN D c t ++ visL D cu := by show visN D c t ++ visL D (itN (aD D) t c) = _; rw [HCUE.out]
      rw [e, keyV_app]; exact ho5
    have HG5 : Hid (Grew w1 w5 (.slice none 0 0) r5) := HGT.out.trans hg5
    have HB5 : Hid (Below w1.heap.size w1 w5) := HG5.out.below (Nat.le_refl _) (fun q e => by cases e)
    have HLM : Hid ((visN D c (t + 1)).length = M + VL) := by show _ = _; rw [HLEN.out, HVL.out]
    obtain ⟨P5, k5, hkf5⟩ := own_form ho5
    subst hkf5
    clear ho5 hg5
    have HFIN : (nc = 0 ∨ max n 1 ≤ ((M + VL : Nat) : Int)) → (∃ t' r, ScanIs D c n t' ∧ Ending.returned (.tuple #[.slice P5 (M + VL) k5, .int .i64 (nc : Int)]) = .returned (.tuple #[r, .int .i64 (itN (aD D) t' c : Nat)]) ∧ w5.ownsRow w1.heap.size 9 1 r (visN D c t').length (keyV (visN D c t')) ∧ Below w1.heap.size w1 w5) := fun hst => by
      refine ⟨t + 1, .slice P5 (M + VL) k5, ⟨by omega, HTL.out, ?_, HFS.out⟩, by rw [HNC.out], ?_, HB5.out⟩
      · rw [HNC.out, HLM.out]; exact hst
      · rw [HLM.out]; exact HO5.out
    have HFINH : Hid _ := HFIN
    have HFS2 : Hid (nc ≠ 0 → ¬ max n 1 ≤ ((M + VL : Nat) : Int) → ∀ s, 1 ≤ s → s < t + 1 + 1 → itN (aD D) s c ≠ 0 ∧ ((visN D c s).length : Int) < max n 1) := fun h1 h2 s h3 h4 => by
      rcases Nat.lt_or_ge s (t + 1) with h5 | h5
      · exact HFS.out s h3 h5
      · have : s = t + 1 := by omega
        subst this
        rw [HNC.out, HLM.out]
        exact ⟨h1, by omega⟩
    clear HFIN
    by_cases hz : nc = 0
    · subst hz
      go_wp2
      go_returns
      exact HFINH.out (Or.inl (by trivial))
    · have hze : ((nc : Int) == 0) = false := by simpa using hz
      by_cases hn1 : n < 1
      · have hmx1 : max n 1 = 1 := by omega
        have hcond : Hid (max n 1 ≤ ((M + VL : Nat) : Int) ↔ 1 ≤ M + VL) := by show _ ↔ _; omega
        by_cases hge : 1 ≤ M + VL
        · have hst : max n 1 ≤ ((M + VL : Nat) : Int) := hcond.out.2 hge
          have hge2 : (1 : Int) ≤ ((M + VL : Nat) : Int) := by omega
          generalize M + VL = MV at *
          go_wp2
          all_goals
            go_returns
            exact HFINH.out (Or.inr hst)
        · have hge2 : ¬ (1 : Int) ≤ ((M + VL : Nat) : Int) := by omega
          have HREL : Hid _ := (⟨HRZ.out hz, HNC.out.symm, HLM.out.symm, HFS2.out hz (by omega)⟩ : Rj (aD D) c + (t + 1) < 2 ^ aD D ∧ nc = itN (aD D) (t + 1) c ∧ M + VL = (visN D c (t + 1)).length ∧ ∀ s, 1 ≤ s → s < t + 1 + 1 → itN (aD D) s c ≠ 0 ∧ ((visN D c s).length : Int) < max n 1)
          generalize M + VL = MV at *
          go_wp2
          all_goals
            go_roundw
            case rel => exact ⟨t + 1, nc, MV, HREL.out.2.2.2, HREL.out.1, HREL.out.2.1, rfl, HREL.out.2.2.1, HO5.out, HG5.out⟩
            case measure => simp only [intOf, Int.toNat_natCast]; rw [HRC.out hz, HR00.out]; have := HREL.out.1; omega
      · have hmx1 : max n 1 = n := by omega
        by_cases hge : n ≤ ((M + VL : Nat) : Int)
        · have hst : max n 1 ≤ ((M + VL : Nat) : Int) := by omega
          generalize M + VL = MV at *
          go_wp2
          all_goals
            go_returns
            exact HFINH.out (Or.inr hst)
        · have HREL : Hid _ := (⟨HRZ.out hz, HNC.out.symm, HLM.out.symm, HFS2.out hz (by omega)⟩ : Rj (aD D) c + (t + 1) < 2 ^ aD D ∧ nc = itN (aD D) (t + 1) c ∧ M + VL = (visN D c (t + 1)).length ∧ ∀ s, 1 ≤ s → s < t + 1 + 1 → itN (aD D) s c ≠ 0 ∧ ((visN D c s).length : Int) < max n 1)
          generalize M + VL = MV at *
          go_wp2
          all_goals
            go_roundw
            case rel => exact ⟨t + 1, nc, MV, HREL.out.2.2.2, HREL.out.1, HREL.out.2.1, rfl, HREL.out.2.2.1, HO5.out, HG5.out⟩
            case measure => simp only [intOf, Int.toNat_natCast]; rw [HRC.out hz, HR00.out]; have := HREL.out.1; omega
end Go.Proofs.Ytdemodhjlbkbeab
