import Derived.Test.YtgiicfgekicfcaaGreatDoorEnZ
import Derived.Test.YtgiicfgekicfcaaGreatDoorEnL2
import Derived.Test.YtgiicfgekicfcaaGreatDoorEnL3
namespace Go.Proofs.YtgiicfgekicfcaaGreatDoor
open Go.RowKit Vi
set_option linter.unusedVariables false
set_option linter.unusedSimpArgs false
set_option maxRecDepth 20000 in
set_option maxHeartbeats 2000000 in
theorem xrep_stat (B b m c : Nat) (P : Option Addr) (p n d : Int) (l : List UInt8) (t : ByteArray) (hts : t.size ≤ 1073741824) (w : World) (h : EnAt B b p l w) (hlen : l.length + t.size ≤ 70368744177600) (hBw : B ≤ w.heap.size) (hM : ∀ W, Below w.heap.size w W → Lm W) :
    Calls Tryz.prog 18 #[.pointer (some ⟨b, 0, none⟩), .agg #[.int .i64 1, .string t, .int .i64 n, .slice P m c], .int .i64 d] w fun e w' => e = .returned (.bool true) ∧ EnAt B b p (l ++ 43 :: (onel t.data.toList ++ [13, 10])) w' ∧ BK B b w w' := by
  have HE : Hid (EnAt B b p l w) := h
  obtain ⟨W0, hW0⟩ : ∃ W, W = w.alloc (.cells #[.int .i64 1, .string t, .int .i64 n, .slice P m c] 24) := ⟨_, rfl⟩
  have hb0 : Below w.heap.size w W0 := by rw [hW0]; exact (Below.refl _ _).alloc (Nat.le_refl _) _
  have HB0 : Hid (Below w.heap.size w W0) := hb0
  obtain ⟨r4, hr4⟩ : ∃ r, w.heap.size = r := ⟨_, rfl⟩
  have hrow0 : W0.heap[r4]? = some (.cells #[.int .i64 1, .string t, .int .i64 n, .slice P m c] 24) := by rw [hW0, ← hr4]; exact one_alloc _ _
  have HR4 : Hid (w.heap.size = r4) := hr4
  have hrb : r4 ≠ b := by have := h.lt; omega
  obtain ⟨z0, z1, z2, z3, zf⟩ := prow4 hrow0
  obtain ⟨S, hS⟩ : ∃ S, strB (onel t.data.toList) = S := ⟨_, rfl⟩
  have hSl : S.data.toList = onel t.data.toList := by rw [← hS, strB_list]
  have hSz : S.size = t.size := by rw [← list_len, hSl, onel_len, list_len]
  have HOL : Hid (Calls Tryz.prog 25 #[.string t] W0 fun e w' => e = .returned (.string S) ∧ Below W0.heap.size W0 w') := by
    have := one_any t hts W0 (hM W0 hb0)
    rw [hS] at this
    exact this
  rw [← hSl]
  clear h hb0 hr4 hrow0 hS hSl
  go_enter Tryz.func18, Tryz.ntmps18
  go_wp2_with fail
  rw [← hW0, HR4.out]
  clear hW0
  refine (show Calls _ _ _ _ _ from HOL.out).mono ?_
  rintro e w1 ⟨rfl, hb1⟩
  obtain ⟨W1, hW1⟩ : ∃ W, W = w1.alloc (.cells #[.string ⟨#[43]⟩, .string S] 9) := ⟨_, rfl⟩
  have hb2 : Below w.heap.size w W1 := by rw [hW1]; exact ((HB0.out.trans (hb1.mono HB0.out.size)).alloc (Nat.le_trans HB0.out.size hb1.size) _)
  have hr1 : W1.heap[w1.heap.size]? = some (.cells (strA [⟨#[43]⟩, S]) 9) := by rw [hW1]; exact one_alloc _ _
  have HLN : Hid _ := line_out B b w1.heap.size 2 p l [⟨#[43]⟩, S] (by simp) W1 (HE.out.on hb2) (by simp only [catL, List.flatMap_cons, List.flatMap_nil, List.length_append, list_len]; simp; omega) (Nat.le_trans hBw hb2.size) hr1
  have HB2 : Hid (BK B b w W1) := BK.of hb2 hBw
  clear hb1 hb2 hr1 z0 z1 z2 z3 zf hSz
  go_wp2_with fail
  rw [← hW1]
  clear hW1
  refine (show Calls _ _ _ _ _ from HLN.out).mono ?_
  rintro e w2 ⟨rfl, he2, hbk2⟩
  have HE2 : Hid _ := he2
  have HBK2 : Hid _ := HB2.out.trans hbk2
  clear he2 hbk2
  go_wp2
  go_returns
  refine ⟨rfl, ?_, HBK2.out⟩
  have e1 : l ++ catL [⟨#[43]⟩, S] ++ [13, 10] = l ++ 43 :: (S.data.toList ++ [13, 10]) := by simp [catL]
  rw [← e1]; exact HE2.out
set_option maxRecDepth 20000 in
set_option maxHeartbeats 2000000 in
theorem xrep_erro (B b m c : Nat) (P : Option Addr) (p n d : Int) (l : List UInt8) (t : ByteArray) (hts : t.size ≤ 1073741824) (w : World) (h : EnAt B b p l w) (hlen : l.length + t.size ≤ 70368744177600) (hBw : B ≤ w.heap.size) (hM : ∀ W, Below w.heap.size w W → Lm W) :
    Calls Tryz.prog 18 #[.pointer (some ⟨b, 0, none⟩), .agg #[.int .i64 2, .string t, .int .i64 n, .slice P m c], .int .i64 d] w fun e w' => e = .returned (.bool true) ∧ EnAt B b p (l ++ 45 :: (onel t.data.toList ++ [13, 10])) w' ∧ BK B b w w' := by
  have HE : Hid (EnAt B b p l w) := h
  obtain ⟨W0, hW0⟩ : ∃ W, W = w.alloc (.cells #[.int .i64 2, .string t, .int .i64 n, .slice P m c] 24) := ⟨_, rfl⟩
  have hb0 : Below w.heap.size w W0 := by rw [hW0]; exact (Below.refl _ _).alloc (Nat.le_refl _) _
  have HB0 : Hid (Below w.heap.size w W0) := hb0
  obtain ⟨r4, hr4⟩ : ∃ r, w.heap.size = r := ⟨_, rfl⟩
  have hrow0 : W0.heap[r4]? = some (.cells #[.int .i64 2, .string t, .int .i64 n, .slice P m c] 24) := by rw [hW0, ← hr4]; exact one_alloc _ _
  have HR4 : Hid (w.heap.size = r4) := hr4
  have hrb : r4 ≠ b := by have := h.lt; omega
  obtain ⟨z0, z1, z2, z3, zf⟩ := prow4 hrow0
  obtain ⟨S, hS⟩ : ∃ S, strB (onel t.data.toList) = S := ⟨_, rfl⟩
  have hSl : S.data.toList = onel t.data.toList := by rw [← hS, strB_list]
  have hSz : S.size = t.size := by rw [← list_len, hSl, onel_len, list_len]
  have HOL : Hid (Calls Tryz.prog 25 #[.string t] W0 fun e w' => e = .returned (.string S) ∧ Below W0.heap.size W0 w') := by
    have := one_any t hts W0 (hM W0 hb0)
    rw [hS] at this
    exact this
  rw [← hSl]
  clear h hb0 hr4 hrow0 hS hSl
  go_enter Tryz.func18, Tryz.ntmps18
  go_wp2_with fail
  rw [← hW0, HR4.out]
  clear hW0
  refine (show Calls _ _ _ _ _ from HOL.out).mono ?_
  rintro e w1 ⟨rfl, hb1⟩
  obtain ⟨W1, hW1⟩ : ∃ W, W = w1.alloc (.cells #[.string ⟨#[45]⟩, .string S] 9) := ⟨_, rfl⟩
  have hb2 : Below w.heap.size w W1 := by rw [hW1]; exact ((HB0.out.trans (hb1.mono HB0.out.size)).alloc (Nat.le_trans HB0.out.size hb1.size) _)
  have hr1 : W1.heap[w1.heap.size]? = some (.cells (strA [⟨#[45]⟩, S]) 9) := by rw [hW1]; exact one_alloc _ _
  have HLN : Hid _ := line_out B b w1.heap.size 2 p l [⟨#[45]⟩, S] (by simp) W1 (HE.out.on hb2) (by simp only [catL, List.flatMap_cons, List.flatMap_nil, List.length_append, list_len]; simp; omega) (Nat.le_trans hBw hb2.size) hr1
  have HB2 : Hid (BK B b w W1) := BK.of hb2 hBw
  clear hb1 hb2 hr1 z0 z1 z2 z3 zf hSz
  go_wp2_with fail
  rw [← hW1]
  clear hW1
  refine (show Calls _ _ _ _ _ from HLN.out).mono ?_
  rintro e w2 ⟨rfl, he2, hbk2⟩
  have HE2 : Hid _ := he2
  have HBK2 : Hid _ := HB2.out.trans hbk2
  clear he2 hbk2
  go_wp2
  go_returns
  refine ⟨rfl, ?_, HBK2.out⟩
  have e1 : l ++ catL [⟨#[45]⟩, S] ++ [13, 10] = l ++ 45 :: (S.data.toList ++ [13, 10]) := by simp [catL]
  rw [← e1]; exact HE2.out
theorem head_lenX (p3 : Bool) (kind : Int) (len : Nat) (h : len ≤ 1073741824) : (headX p3 kind len).length ≤ 30 := by
  have hc : cntX p3 kind len ≤ 1073741824 := by unfold cntX; split <;> omega
  have := itoa_len20 ((cntX p3 kind len : Nat) : Int) (by omega) (by omega)
  unfold headX
  simp only [List.length_cons, List.length_append, List.length_nil]
  omega
theorem all_len {α : Type} (f : α → Option By) (F : α → Nat) : ∀ (l : List α) (a : By), (∀ x ∈ l, ∀ a, f x = some a → a.length ≤ F x) → encAll f l = some a → a.length ≤ (l.map F).sum
  | [], a, _, h => by injection h with h; subst h; simp
  | x :: l, a, hf, h => by
    rw [encAll] at h
    split at h
    · cases h
    · rename_i q hq
      split at h
      · cases h
      · rename_i r hr
        injection h with h
        subst h
        have h1 := hf x (List.mem_cons_self) q hq
        have h2 := all_len f F l r (fun y hy => hf y (List.mem_cons_of_mem _ hy)) hr
        simp only [List.length_append, List.map_cons, List.sum_cons]
        omega
theorem sum30 {α : Type} (g : α → Nat) (l : List α) : (l.map (fun x => 30 * g x)).sum = 30 * (l.map g).sum := by
  induction l with
  | nil => rfl
  | cons x l ih => simp only [List.map_cons, List.sum_cons, ih]; omega
theorem encX_len (p3 : Bool) : ∀ (k dep : Nat) (t : Rn (Rp k)) (a : By), bz k t ≤ 67108864 → Rg k t → encX p3 k dep t = some a → a.length ≤ 30 * bz k t
  | 0, dep, t, a, hb, hr, h => by
    have hl := bz_pos 0 t
    have hb1 : bz 0 t = 1 + t.text.length := rfl
    rw [encX] at h
    split at h
    · rename_i q hq
      injection h with h
      subst h
      have := leaf_len hr (by omega) hq
      omega
    · split at h
      · injection h with h
        subst h
        have := head_lenX p3 t.kind 0 (by omega)
        omega
      · cases h
  | k + 1, dep, t, a, hb, hr, h => by
    have hl := bz_len k t
    have hb1 : bz (k + 1) t = 1 + t.text.length + (List.map (α := Rn (Rp k)) (bz k) t.list).sum := rfl
    rw [encX] at h
    split at h
    · rename_i q hq
      injection h with h
      subst h
      have := leaf_len hr.1 (by omega) hq
      omega
    · split at h
      · split at h
        · cases h
        · rename_i r hr2
          injection h with h
          subst h
          have h1 := head_lenX p3 t.kind (List.length t.list) (by omega)
          have h2 := all_len (α := Rn (Rp k)) (encX p3 k (dep + 1)) (fun x => 30 * bz k x) t.list r (fun x hx a ha => encX_len p3 k (dep + 1) x a (Nat.le_trans (bz_mem k t x hx) hb) (hr.2 x hx) ha) hr2
          have h3 : (List.map (α := Rn (Rp k)) (fun x => 30 * bz k x) t.list).sum = 30 * (List.map (α := Rn (Rp k)) (bz k) t.list).sum := sum30 (bz k) t.list
          rw [List.length_append]
          omega
      · cases h
end Go.Proofs.YtgiicfgekicfcaaGreatDoor
namespace Go.Proofs.YtgiicfgekicfcaaGreatDoor
open Go.RowKit Vi
set_option linter.unusedVariables false
set_option linter.unusedSimpArgs false
theorem eno_ok {B b : Nat} {p : Int} {l a a' : By} {w w' : World} {e : Ending} (ha : a = a') (h : e = .returned (.bool true) ∧ EnAt B b p (l ++ a) w' ∧ BK B b w w') : EnO B b p l (some a') w w' e := by subst ha; exact h
/-- a reply that is no list is written. -/
theorem xrep_leaf (B b m c : Nat) (P : Option Addr) (D kind n p : Int) (text a : By) (l : List UInt8) (w : World) (p3 : Bool) (hp : p = if p3 then 3 else 2) (hn : -9223372036854775808 ≤ n ∧ n ≤ 9223372036854775807) (ht : text.length ≤ 67108864) (ho : leafX p3 kind text n = some a) (hE : EnAt B b p l w) (hlen : l.length + 30 + text.length ≤ 70368744177000) (hBw : B ≤ w.heap.size) (hL : ∀ W, Below B w W → Laid W ∧ Lm W) :
    Calls Tryz.prog 18 #[.pointer (some ⟨b, 0, none⟩), .agg #[.int .i64 kind, .string (strB text), .int .i64 n, .slice P m c], .int .i64 D] w fun e w' => EnO B b p l (some a) w w' e := by
  have hz : (strB text).size = text.length := strB_size text
  have hli : (strB text).data.toList = text := strB_list text
  unfold leafX at ho
  split at ho
  · rename_i hk; subst hk; injection ho with ho
    exact (xrep_stat B b m c P p n D l (strB text) (by omega) w hE (by omega) hBw (fun W hW => (hL W (hW.mono hBw)).2)).mono (fun e w' h => eno_ok (by rw [hli]; exact ho) h)
  split at ho
  · rename_i _ hk; subst hk; injection ho with ho
    exact (xrep_erro B b m c P p n D l (strB text) (by omega) w hE (by omega) hBw (fun W hW => (hL W (hW.mono hBw)).2)).mono (fun e w' h => eno_ok (by rw [hli]; exact ho) h)
  split at ho
  · rename_i _ _ hk; subst hk; injection ho with ho
    exact (reply_int B b m c P p n D l (strB text) hn.1 hn.2 w hE (by omega) hBw (fun W hW => (hL W hW).1)).mono (fun e w' h => eno_ok (by rw [← ho]; simp) h)
  split at ho
  · rename_i _ _ _ hk; subst hk; injection ho with ho
    exact (reply_bulk B b m c P p n D l (strB text) w hE (by omega) hBw (fun W hW => (hL W hW).1)).mono (fun e w' h => eno_ok (by rw [hli, hz]; exact ho) h)
  split at ho
  · rename_i _ _ _ _ hk; subst hk; injection ho with ho
    exact (reply_null B b m c P p n D l (strB text) w hE (by omega) hBw).mono (fun e w' h => eno_ok (by rw [← ho, hp]; cases p3 <;> rfl) h)
  split at ho
  · rename_i _ _ _ _ _ hk; subst hk; injection ho with ho
    exact (reply_nulls B b m c P p n D l (strB text) w hE (by omega) hBw).mono (fun e w' h => eno_ok (by rw [← ho, hp]; cases p3 <;> rfl) h)
  split at ho
  · rename_i _ _ _ _ _ _ hk; subst hk; injection ho with ho
    refine (reply_bool B b m c P p n D l (strB text) w hE (by omega) hBw).mono (fun e w' h => eno_ok ?_ h)
    rw [← ho, hp]
    by_cases h0 : n = 0
    · subst h0; cases p3 <;> rfl
    · have h1 : (n != 0) = true := by simpa using h0
      rw [h1]
      cases p3 <;> simp [h0] <;> rfl
  · cases ho
theorem leaf_no {p3 : Bool} {kind n : Int} {text : By} (h : leafX p3 kind text n = none) (h10 : kind ≠ 10) : NoLeaf kind := by
  unfold leafX at h
  repeat' split at h
  all_goals first | (cases h; done) | skip
  rename_i h1 h2 h3 h4 h0 h9 h11
  exact ⟨by simpa using h1, by simpa using h2, by simpa using h3, by simpa using h4, by simpa using h0, by simpa using h9, by simpa using h11, by simpa using h10⟩
theorem lk_cases {kd : Int} (h : lk kd = true) : kd = 5 ∨ kd = 6 ∨ kd = 7 ∨ kd = 8 := by
  unfold lk at h
  simp at h
  omega
theorem lk_no4 {kd : Int} (h : lk kd = false) : (kd == 5) = false ∧ (kd == 6) = false ∧ (kd == 7) = false ∧ (kd == 8) = false := by
  refine ⟨?_, ?_, ?_, ?_⟩ <;> (cases hh : (kd == _) with | false => rfl | true => (have e := eq_of_beq hh; subst e; cases h))
/-- any list: what its replies answer, behind its head; or it can't be written. -/
theorem xlist_any (p3 : Bool) (p : Int) (hp : p = if p3 then 3 else 2) (k B b dep : Nat) (hdep : dep ≤ 32) (n kd : Int) (s : ByteArray) (l : List UInt8) (lv : Value) (ts : List (Rn (Rp k))) (f : Rn (Rp k) → Option By) (F : Rn (Rp k) → Nat) (hF : ∀ X ∈ ts, ∀ a, f X = some a → a.length ≤ F X) (hn : ts.length ≤ 1073741824)
    (w : World) (h : EnAt B b p l w) (hlen : l.length + 30 + (ts.map F).sum ≤ 70368744177000) (hBw : B ≤ w.heap.size) (hL : ∀ W, Below B w W → Laid W) (hT : RpB (fun g => g < B) k (RpL (fun g => g < B) k w) w lv ts)
    (IH : dep < 32 → ∀ X ∈ ts, ∀ (v : Value) (l' : List UInt8) (W : World), Below B w W → B ≤ W.heap.size → EnAt B b p l' W → l'.length + F X ≤ 70368744177000 → RpL (fun g => g < B) k W v X.list → Calls Tryz.prog 18 #[.pointer (some ⟨b, 0, none⟩), .agg #[.int .i64 X.kind, .string (strB X.text), .int .i64 X.n, v], .int .i64 ((dep : Int) + 1)] W fun e w' => EnO B b p l' (f X) W w' e) :
    Calls Tryz.prog 29 #[.pointer (some ⟨b, 0, none⟩), .agg #[.int .i64 kd, .string s, .int .i64 n, lv], .int .i64 (dep : Int)] w fun e w' => EnO B b p l (if okL kd ts.length dep = true then behind (headX p3 kd ts.length) (encAll f ts) else none) w w' e := by
  obtain ⟨P, c, hlv⟩ : ∃ P c, lv = .slice P ts.length c := by obtain ⟨P, c, e, _⟩ := hT; exact ⟨P, c, e⟩
  by_cases hk : lk kd = true
  case neg =>
    have hkf : lk kd = false := by simpa using hk
    have ho : okL kd ts.length dep = false := by unfold okL; rw [hkf]; rfl
    obtain ⟨h5, h6, h7, h8⟩ := lk_no4 hkf
    rw [ho, if_neg (by decide), hlv]
    exact xlist_kind B b ts.length c P kd n dep p s l w h5 h6 h7 h8 hBw
  by_cases hodd : kd = 6 ∧ ts.length % 2 ≠ 0
  case pos =>
    obtain ⟨rfl, hod⟩ := hodd
    have ho : okL 6 ts.length dep = false := by unfold okL; simp [hod]
    rw [ho, if_neg (by decide), hlv]
    exact xlist_odd B b ts.length c P n dep p s l w hod hn hBw
  have hev : kd = 6 → ts.length % 2 = 0 := fun e => by by_cases h0 : ts.length % 2 = 0; exact h0; exact absurd ⟨e, h0⟩ hodd
  by_cases hd : dep = 32
  case pos =>
    subst hd
    have ho : okL kd ts.length 32 = false := by unfold okL; simp
    rw [ho, if_neg (by decide), hlv]
    rcases lk_cases hk with rfl | rfl | rfl | rfl <;> cases p3 <;> (have hp' := hp; simp at hp'; subst hp')
    · exact xlist_deep5_2 B b ts.length c P n s l w h hn hBw
    · exact xlist_deep5_3 B b ts.length c P n s l w h hn hBw
    · exact xlist_deep6_2 B b ts.length c P n s l w h (hev rfl) hn hBw
    · exact xlist_deep6_3 B b ts.length c P n s l w h (hev rfl) hn hBw
    · exact xlist_deep7_2 B b ts.length c P n s l w h hn hBw
    · exact xlist_deep7_3 B b ts.length c P n s l w h hn hBw
    · exact xlist_deep8_2 B b ts.length c P n s l w h hn hBw
    · exact xlist_deep8_3 B b ts.length c P n s l w h hn hBw
  have hd2 : dep < 32 := by omega
  have ho : okL kd ts.length dep = true := by
    unfold okL
    rw [hk]
    by_cases h6 : kd = 6
    · simp [h6, hev h6, hd2]
    · simp [h6, hd2]
  rw [ho, if_pos rfl]
  rcases lk_cases hk with rfl | rfl | rfl | rfl <;> cases p3 <;> (have hp' := hp; simp at hp'; subst hp')
  · exact xlist2_5 k B b dep n s l lv ts f F hF hn (by omega) (by omega) w h hlen hBw hL hT (IH hd2)
  · exact xlist3_5 k B b dep n s l lv ts f F hF hn (by omega) (by omega) w h hlen hBw hL hT (IH hd2)
  · exact xlist2_6 k B b dep n s l lv ts f F hF (hev rfl) hn (by omega) (by omega) w h hlen hBw hL hT (IH hd2)
  · exact xlist3_6 k B b dep n s l lv ts f F hF (hev rfl) hn (by omega) (by omega) w h hlen hBw hL hT (IH hd2)
  · exact xlist2_7 k B b dep n s l lv ts f F hF hn (by omega) (by omega) w h hlen hBw hL hT (IH hd2)
  · exact xlist3_7 k B b dep n s l lv ts f F hF hn (by omega) (by omega) w h hlen hBw hL hT (IH hd2)
  · exact xlist2_8 k B b dep n s l lv ts f F hF hn (by omega) (by omega) w h hlen hBw hL hT (IH hd2)
  · exact xlist3_8 k B b dep n s l lv ts f F hF hn (by omega) (by omega) w h hlen hBw hL hT (IH hd2)
/-- any reply. -/
theorem xrep_any (p3 : Bool) (p : Int) (hp : p = if p3 then 3 else 2) (B b : Nat) : ∀ (k dep : Nat) (t : Rn (Rp k)) (v : Value) (l : List UInt8) (w : World), dep ≤ 32 → (t.kind = 10 → 1 ≤ dep) → bz k t ≤ 67108864 → Rg k t → EnAt B b p l w → l.length + 30 * bz k t ≤ 70368744177000 → B ≤ w.heap.size → (∀ W, Below B w W → Laid W ∧ Lm W) → RpL (fun g => g < B) k w v t.list →
    Calls Tryz.prog 18 #[.pointer (some ⟨b, 0, none⟩), .agg #[.int .i64 t.kind, .string (strB t.text), .int .i64 t.n, v], .int .i64 (dep : Int)] w fun e w' => EnO B b p l (encX p3 k dep t) w w' e
  | 0, dep, t, v, l, w, hdep, h10, hb, hr, hE, hlen, hBw, hL, hT => by
    obtain ⟨P, c, rfl⟩ := hT
    have hb1 : bz 0 t = 1 + t.text.length := rfl
    rw [encX]
    cases ho : leafX p3 t.kind t.text t.n with
    | some a => exact xrep_leaf B b 0 c P dep t.kind t.n p t.text a l w p3 hp hr (by omega) ho hE (by omega) hBw hL
    | none =>
      by_cases hk10 : t.kind = 10
      · have hd := h10 hk10
        have hok : okL t.kind 0 dep = false := by rw [hk10]; rfl
        simp only [hok, Bool.false_eq_true, if_false]
        have h9 := xrep_none B b 0 c P t.n dep p (strB t.text) l w hE hBw
        rw [if_neg (by omega), ← hk10] at h9
        exact h9
      · refine (xrep_list B b 0 c P t.kind t.n dep p (strB t.text) l _ w (leaf_no ho hk10) hBw (fun W hW => xlist_any p3 p hp 0 B b dep hdep t.n t.kind (strB t.text) l (.slice P 0 c) [] (fun _ => none) (fun _ => 0) (fun X hX => by cases hX) (by simp) W (hE.on hW) (by simp; omega) (Nat.le_trans hBw hW.size) (fun W2 h2 => (hL W2 ((hW.mono hBw).trans h2)).1) ⟨P, c, rfl, fun i h => absurd h (Nat.not_lt_zero i)⟩ (fun _ X hX => by cases hX))).mono (fun e w' h => ?_)
        have e0 : (if okL t.kind ([] : List (Rn (Rp 0))).length dep = true then behind (headX p3 t.kind ([] : List (Rn (Rp 0))).length) (encAll (fun _ => none) ([] : List (Rn (Rp 0)))) else none) = if okL t.kind 0 dep = true then some (headX p3 t.kind 0) else none := by
          show (if okL t.kind 0 dep = true then some (headX p3 t.kind 0 ++ []) else none) = _
          rw [List.append_nil]
        rw [e0] at h
        exact h
  | k + 1, dep, t, v, l, w, hdep, h10, hb, hr, hE, hlen, hBw, hL, hT => by
    have hbl := bz_len k t
    have hb1 : bz (k + 1) t = 1 + t.text.length + (List.map (α := Rn (Rp k)) (bz k) t.list).sum := rfl
    have hs30 : (List.map (α := Rn (Rp k)) (fun x => 30 * bz k x) t.list).sum = 30 * (List.map (α := Rn (Rp k)) (bz k) t.list).sum := sum30 (bz k) t.list
    have h9 : List.length t.list ≤ 1073741824 := by omega
    obtain ⟨P, c, hv, _⟩ := id hT
    rw [encX]
    cases ho : leafX p3 t.kind t.text t.n with
    | some a =>
      rw [hv]
      exact xrep_leaf B b _ c P dep t.kind t.n p t.text a l w p3 hp hr.1 (by omega) ho hE (by omega) hBw hL
    | none =>
      by_cases hk10 : t.kind = 10
      · have hd := h10 hk10
        have hok : okL t.kind (List.length t.list) dep = false := by rw [hk10]; rfl
        simp only [hok, Bool.false_eq_true, if_false]
        rw [hv]
        have h9 := xrep_none B b (List.length (α := Rn (Rp k)) t.list) c P t.n dep p (strB t.text) l w hE hBw
        rw [if_neg (by omega), ← hk10] at h9
        exact h9
      · have hX := fun W (hW : Below w.heap.size w W) => xlist_any p3 p hp k B b dep hdep t.n t.kind (strB t.text) l v t.list (encX p3 k (dep + 1)) (fun x => 30 * bz k x) (fun X hX a ha => encX_len p3 k (dep + 1) X a (Nat.le_trans (bz_mem k t X hX) hb) (hr.2 X hX) ha) h9 W (hE.on hW) (by omega) (Nat.le_trans hBw hW.size) (fun W2 h2 => (hL W2 ((hW.mono hBw).trans h2)).1) (hT.on hW)
          (fun hd X hX v2 l2 W2 h2 h3 h4 h5 h6 => xrep_any p3 p hp B b k (dep + 1) X v2 l2 W2 (by omega) (fun _ => by omega) (Nat.le_trans (bz_mem k t X hX) hb) (hr.2 X hX) h4 h5 h3 (fun W3 h7 => hL W3 (((hW.mono hBw).trans h2).trans h7)) h6)
        rw [hv] at hX ⊢
        refine (xrep_list B b _ c P t.kind t.n dep p (strB t.text) l _ w (leaf_no ho hk10) hBw hX).mono (fun e w' h => ?_)
        have e0 : (if okL t.kind (List.length (α := Rn (Rp k)) t.list) dep = true then behind (headX p3 t.kind (List.length (α := Rn (Rp k)) t.list)) (encAll (α := Rn (Rp k)) (encX p3 k (dep + 1)) t.list) else none) = (if okL t.kind (List.length (α := Rn (Rp k)) t.list) dep = true then (match encAll (α := Rn (Rp k)) (encX p3 k (dep + 1)) t.list with
            | none => none
            | some b => some (headX p3 t.kind (List.length (α := Rn (Rp k)) t.list) ++ b)) else none) := by
          cases encAll (α := Rn (Rp k)) (encX p3 k (dep + 1)) t.list <;> rfl
        exact e0 ▸ h
end Go.Proofs.YtgiicfgekicfcaaGreatDoor
namespace Go.Proofs.YtgiicfgekicfcaaGreatDoor
open Go.RowKit Vi
set_option linter.unusedVariables false
set_option linter.unusedSimpArgs false
theorem leafX_ne {p3 : Bool} {kind n : Int} {text a : By} (h : leafX p3 kind text n = some a) : a ≠ [] := by
  unfold leafX at h
  repeat' split at h
  all_goals first | (injection h with h; subst h; simp) | cases h
theorem encX_ne (p3 : Bool) (k dep : Nat) (t : Rn (Rp k)) (a : By) (h : encX p3 k dep t = some a) : a ≠ [] := by
  cases k with
  | zero =>
    rw [encX] at h
    split at h
    · rename_i q hq
      injection h with h; subst h; exact leafX_ne hq
    · split at h
      · injection h with h; subst h; unfold headX; simp
      · cases h
  | succ k =>
    rw [encX] at h
    split at h
    · rename_i q hq
      injection h with h; subst h; exact leafX_ne hq
    · split at h
      · split at h
        · cases h
        · injection h with h; subst h; unfold headX; simp
      · cases h
/-- what Encode answers. -/
def EncIs (o : Option By) (w w' : World) (e : Ending) : Prop := match o with
  | some a => e = .returned (.tuple #[.string (strB a), .int .i64 0]) ∧ Below w.heap.size w w'
  | none => e = .returned (.tuple #[.string ⟨#[]⟩, .int .i64 1]) ∧ Below w.heap.size w w'
set_option maxRecDepth 20000 in
set_option maxHeartbeats 4000000 in
/-- Encode of any reply but none, in the forms 2 and 3. -/
theorem xencode_form (p3 : Bool) (p : Int) (hp : p = if p3 then 3 else 2) (k : Nat) (t : Rn (Rp k)) (P : Option Addr) (m c : Nat) (w : World) (h10 : t.kind ≠ 10) (hb : bz k t ≤ 67108864) (hr : Rg k t) (hL : Laid w) (hM : Lm w) (hT : RpL (fun g => g < w.heap.size) k w (.slice P m c) t.list) :
    Calls Tryz.prog 7 #[.agg #[.int .i64 t.kind, .string (strB t.text), .int .i64 t.n, .slice P m c], .int .i64 p] w fun e w' => EncIs (encX p3 k 0 t) w w' e := by
  obtain ⟨XT, hXT⟩ : ∃ XT, strB t.text = XT := ⟨_, rfl⟩
  obtain ⟨kd, hkd⟩ : ∃ kd, t.kind = kd := ⟨_, rfl⟩
  obtain ⟨n, hn⟩ : ∃ n, t.n = n := ⟨_, rfl⟩
  obtain ⟨r2, hr2⟩ : ∃ r, w.heap.size = r := ⟨_, rfl⟩
  obtain ⟨W0, hW0⟩ : ∃ W, W = (w.alloc (.cells #[.int .i64 kd, .string XT, .int .i64 n, .slice P m c] 24)).alloc (.cells #[.pointer none, .slice none 0 0, .int .i64 p] 53) := ⟨_, rfl⟩
  have hb0 : Below w.heap.size w W0 := by rw [hW0]; exact (((Below.refl _ _).alloc (Nat.le_refl _) _).alloc (by simp) _)
  have hrow : W0.heap[r2]? = some (.cells #[.int .i64 kd, .string XT, .int .i64 n, .slice P m c] 24) := by
    rw [hW0, ← hr2]; exact keep_row (one_alloc _ _) ((Below.refl _ _).alloc (Nat.le_refl _) _)
  have hen : EnAt w.heap.size (r2 + 1) p [] W0 := by
    refine ⟨by omega, _, _, Or.inl rfl, ?_, ⟨rfl, Or.inl ⟨rfl, rfl⟩⟩⟩
    have h9 := one_alloc (w.alloc (.cells #[.int .i64 kd, .string XT, .int .i64 n, .slice P m c] 24)) (.cells #[.pointer none, .slice none 0 0, .int .i64 p] 53)
    rw [hW0, ← hr2]; simpa using h9
  obtain ⟨o, ho⟩ : ∃ o, encX p3 k 0 t = o := ⟨_, rfl⟩
  have HRP : Hid (Calls Tryz.prog 18 #[.pointer (some ⟨r2 + 1, 0, none⟩), .agg #[.int .i64 kd, .string XT, .int .i64 n, .slice P m c], .int .i64 0] W0 fun e w' => EnO w.heap.size (r2 + 1) p [] o W0 w' e) := by
    have h9 := xrep_any p3 p hp w.heap.size (r2 + 1) k 0 t (.slice P m c) [] W0 (by omega) (fun h => absurd h h10) hb hr hen (by simp; omega) hb0.size (fun W hW => ⟨hL.on (hb0.trans hW), hM.on (hb0.trans hW)⟩) (hT.on hb0)
    rw [hXT, hkd, hn, ho] at h9
    exact h9
  have HB0 : Hid (Below w.heap.size w W0) := hb0
  have HR2 : Hid (w.heap.size = r2) := hr2
  have HNE : Hid (∀ a, o = some a → a ≠ []) := fun a ha => encX_ne p3 k 0 t a (ho.trans ha)
  obtain ⟨z0, z1, z2, z3, zf⟩ := prow4 hrow
  rw [hXT, hkd, hn, ho]
  clear hb hr hT hL hM hb0 hen hrow hr2 h10 hXT hkd hn ho
  cases p3 <;> (have hp' := hp; simp at hp'; subst hp'; clear hp)
  all_goals
    cases o with
    | none =>
      go_enter Tryz.func7, Tryz.ntmps7
      go_upto_region 4 with fail
      rw [← hW0, HR2.out]
      clear hW0
      go_wp2_with fail
      refine (show Calls _ _ _ _ _ from HRP.out).mono ?_
      rintro e w1 ⟨rfl, hbk1⟩
      have HB1 : Hid (Below w.heap.size w w1) := HB0.out.trans hbk1.bel
      clear hbk1 z0 z1 z2 z3 zf
      go_wp2
      go_returns
      exact ⟨rfl, HB1.out⟩
    | some a =>
      go_enter Tryz.func7, Tryz.ntmps7
      go_upto_region 4 with fail
      rw [← hW0, HR2.out]
      clear hW0
      go_wp2_with fail
      refine (show Calls _ _ _ _ _ from HRP.out).mono ?_
      rintro e w1 ⟨rfl, he1, hbk1⟩
      have HST : Hid _ := str_any w.heap.size (r2 + 1) _ _ w1 he1 (HNE.out a rfl)
      have HB1 : Hid (Below w.heap.size w w1) := HB0.out.trans hbk1.bel
      clear he1 hbk1 z0 z1 z2 z3 zf
      go_wp2_with fail
      refine (show Calls _ _ _ _ _ from HST.out).mono ?_
      rintro e w2 ⟨rfl, hb2⟩
      have HB2 : Hid (Below w.heap.size w w2) := HB1.out.trans hb2
      clear hb2
      go_wp2
      go_returns
      exact ⟨rfl, HB2.out⟩
set_option maxRecDepth 20000 in
/-- no form. -/
theorem xencode_no (kd n p : Int) (s : ByteArray) (P : Option Addr) (m c : Nat) (w : World) (h2 : p ≠ 2) (h3 : p ≠ 3) :
    Calls Tryz.prog 7 #[.agg #[.int .i64 kd, .string s, .int .i64 n, .slice P m c], .int .i64 p] w fun e w' => EncIs none w w' e := by
  have hq2 : (p != 2) = true := by simpa using h2
  have hq3 : (p != 3) = true := by simpa using h3
  obtain ⟨W0, hW0⟩ : ∃ W, W = w.alloc (.cells #[.int .i64 kd, .string s, .int .i64 n, .slice P m c] 24) := ⟨_, rfl⟩
  have HB0 : Hid (Below w.heap.size w W0) := by show Below _ _ _; rw [hW0]; exact (Below.refl _ _).alloc (Nat.le_refl _) _
  clear h2 h3
  go_enter Tryz.func7, Tryz.ntmps7
  go_wp2
  rw [← hW0]
  clear hW0
  go_returns
  exact ⟨rfl, HB0.out⟩
end Go.Proofs.YtgiicfgekicfcaaGreatDoor
namespace Go.Proofs.YtgiicfgekicfcaaGreatDoor
open Go.RowKit Vi
set_option linter.unusedVariables false
set_option linter.unusedSimpArgs false
/-- the String of a builder into which nothing was written. -/
theorem str_nil (b : Nat) (p : Int) (w : World) (hbk : w.heap[b]? = some (.cells #[.pointer none, .slice none 0 0, .int .i64 p] 53 (0, 0))) :
    Calls Tryz.prog 19 #[.pointer (some ⟨b, 0, none⟩)] w fun e w' => e = .returned (.string ⟨#[]⟩) ∧ Below w.heap.size w w' := by
  have c1 : w.drew.cell? ⟨b, 1, none⟩ = some (.slice none 0 0) := by
    have : w.drew.heap[b]? = some (.cells #[.pointer none, .slice none 0 0, .int .i64 p] 53 (0, 0)) := hbk
    rw [cell_heap this]; rfl
  have hSD : (Builtin.unsafeSliceData_ #[49] 72 #[.slice none 0 0]).run Tryz.prog w.drew = .ok (.pointer none) w.drew := Lib.run_unsafeSliceData_nil _ _ _ _ _
  have hUS : (Builtin.unsafeString_ #[72, 3] 9 #[.pointer none, .int .i64 0]).run Tryz.prog w.drew = .ok (.string ⟨#[]⟩) w.drew := Lib.run_unsafeString_none _ _ _ _ _
  go_enter Tryz.func19, Tryz.ntmps19
  go_wp2
  go_region
  all_goals (go_wp2; go_ret; exact ⟨rfl, Below.drew (Below.refl _ w)⟩)
/-- no reply, at the top: nothing is written. -/
theorem reply_ten (b m c : Nat) (P : Option Addr) (n : Int) (s : ByteArray) (w : World) :
    Calls Tryz.prog 18 #[.pointer (some ⟨b, 0, none⟩), .agg #[.int .i64 10, .string s, .int .i64 n, .slice P m c], .int .i64 0] w fun e w' => e = .returned (.bool true) ∧ w' = w.alloc (.cells #[.int .i64 10, .string s, .int .i64 n, .slice P m c] 24) := by
  obtain ⟨W0, hW0⟩ : ∃ W, W = w.alloc (.cells #[.int .i64 10, .string s, .int .i64 n, .slice P m c] 24) := ⟨_, rfl⟩
  rw [← hW0]
  go_enter Tryz.func18, Tryz.ntmps18
  go_wp2
  rw [← hW0]
  clear hW0
  go_returns
  exact ⟨rfl, rfl⟩
set_option maxRecDepth 20000 in
set_option maxHeartbeats 4000000 in
/-- Encode of no reply. -/
theorem xencode_ten (p3 : Bool) (p : Int) (hp : p = if p3 then 3 else 2) (n : Int) (s : ByteArray) (P : Option Addr) (m c : Nat) (w : World) :
    Calls Tryz.prog 7 #[.agg #[.int .i64 10, .string s, .int .i64 n, .slice P m c], .int .i64 p] w fun e w' => EncIs (some []) w w' e := by
  obtain ⟨r2, hr2⟩ : ∃ r, w.heap.size = r := ⟨_, rfl⟩
  obtain ⟨W0, hW0⟩ : ∃ W, W = (w.alloc (.cells #[.int .i64 10, .string s, .int .i64 n, .slice P m c] 24)).alloc (.cells #[.pointer none, .slice none 0 0, .int .i64 p] 53) := ⟨_, rfl⟩
  have hb0 : Below w.heap.size w W0 := by rw [hW0]; exact (((Below.refl _ _).alloc (Nat.le_refl _) _).alloc (by simp) _)
  have hrow : W0.heap[r2]? = some (.cells #[.int .i64 10, .string s, .int .i64 n, .slice P m c] 24) := by
    rw [hW0, ← hr2]; exact keep_row (one_alloc _ _) ((Below.refl _ _).alloc (Nat.le_refl _) _)
  have hen : W0.heap[r2 + 1]? = some (.cells #[.pointer none, .slice none 0 0, .int .i64 p] 53 (0, 0)) := by
    have h9 := one_alloc (w.alloc (.cells #[.int .i64 10, .string s, .int .i64 n, .slice P m c] 24)) (.cells #[.pointer none, .slice none 0 0, .int .i64 p] 53)
    rw [hW0, ← hr2]; simpa using h9
  have HRP : Hid (Calls Tryz.prog 18 #[.pointer (some ⟨r2 + 1, 0, none⟩), .agg #[.int .i64 10, .string s, .int .i64 n, .slice P m c], .int .i64 0] W0 fun e w' => e = .returned (.bool true) ∧ w' = W0.alloc (.cells #[.int .i64 10, .string s, .int .i64 n, .slice P m c] 24)) := reply_ten (r2 + 1) m c P n s W0
  have HB0 : Hid (Below w.heap.size w W0) := hb0
  have HR2 : Hid (w.heap.size = r2) := hr2
  have HEN : Hid (W0.heap[r2 + 1]? = some (.cells #[.pointer none, .slice none 0 0, .int .i64 p] 53 (0, 0))) := hen
  obtain ⟨z0, z1, z2, z3, zf⟩ := prow4 hrow
  clear hb0 hen hrow hr2
  cases p3 <;> (have hp' := hp; simp at hp'; subst hp'; clear hp)
  all_goals
    go_enter Tryz.func7, Tryz.ntmps7
    go_upto_region 4 with fail
    rw [← hW0, HR2.out]
    clear hW0
    go_wp2_with fail
    refine (show Calls _ _ _ _ _ from HRP.out).mono ?_
    rintro e w1 ⟨rfl, hw1⟩
    have hbb : Below W0.heap.size W0 w1 := by rw [hw1]; exact (Below.refl _ _).alloc (Nat.le_refl _) _
    have HB1 : Hid (Below w.heap.size w w1) := HB0.out.trans (hbb.mono HB0.out.size)
    have HST : Hid _ := str_nil (r2 + 1) _ w1 (keep_row HEN.out hbb)
    clear hbb hw1 z0 z1 z2 z3 zf
    go_wp2_with fail
    refine (show Calls _ _ _ _ _ from HST.out).mono ?_
    rintro e w2 ⟨rfl, hb2⟩
    have HB2 : Hid (Below w.heap.size w w2) := HB1.out.trans (hb2.mono HB1.out.size)
    clear hb2
    go_wp2
    go_returns
    exact ⟨rfl, HB2.out⟩
end Go.Proofs.YtgiicfgekicfcaaGreatDoor
