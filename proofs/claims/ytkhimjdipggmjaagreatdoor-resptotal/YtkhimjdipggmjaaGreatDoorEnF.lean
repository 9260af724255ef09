import Derived.Test.YtkhimjdipggmjaaGreatDoorEnE
namespace Go.Proofs.YtkhimjdipggmjaaGreatDoor
open Go.RowKit Vi
set_option linter.unusedVariables false
set_option linter.unusedSimpArgs false
set_option maxRecDepth 20000 in
set_option maxHeartbeats 4000000 in
theorem erep_5 (B b m c : Nat) (P : Option Addr) (D : Int) (l l' : List UInt8) (w : World) (hBw : B ≤ w.heap.size)
    (hc : ∀ W, Below w.heap.size w W → Calls Tryz.prog 29 #[.pointer (some ⟨b, 0, none⟩), .agg #[.int .i64 5, .string ⟨#[]⟩, .int .i64 0, .slice P m c], .int .i64 D] W fun e w' => e = .returned (.bool true) ∧ EnAt B b 3 l' w' ∧ BK B b W w') :
    Calls Tryz.prog 14 #[.pointer (some ⟨b, 0, none⟩), .agg #[.int .i64 5, .string ⟨#[]⟩, .int .i64 0, .slice P m c], .int .i64 D] w fun e w' => e = .returned (.bool true) ∧ EnAt B b 3 l' w' ∧ BK B b w w' := by
  obtain ⟨W0, hW0⟩ : ∃ W, W = w.alloc (.cells #[.int .i64 5, .string ⟨#[]⟩, .int .i64 0, .slice P m c] 24) := ⟨_, rfl⟩
  have hb0 : Below w.heap.size w W0 := by rw [hW0]; exact (Below.refl _ _).alloc (Nat.le_refl _) _
  have HCC : Hid _ := hc W0 hb0
  have HB0 : Hid (BK B b w W0) := BK.of hb0 hBw
  clear hc hb0
  go_enter Tryz.func14, Tryz.ntmps14
  go_wp2_with fail
  rw [← hW0]
  clear hW0
  refine (show Calls _ _ _ _ _ from HCC.out).mono ?_
  rintro e w1 ⟨rfl, he1, hbk1⟩
  have HE1 : Hid _ := he1
  have HB1 : Hid (BK B b w w1) := HB0.out.trans hbk1
  clear he1 hbk1
  go_wp2
  go_returns
  exact ⟨rfl, HE1.out, HB1.out⟩
set_option maxRecDepth 20000 in
set_option maxHeartbeats 4000000 in
theorem erep_6 (B b m c : Nat) (P : Option Addr) (D : Int) (l l' : List UInt8) (w : World) (hBw : B ≤ w.heap.size)
    (hc : ∀ W, Below w.heap.size w W → Calls Tryz.prog 29 #[.pointer (some ⟨b, 0, none⟩), .agg #[.int .i64 6, .string ⟨#[]⟩, .int .i64 0, .slice P m c], .int .i64 D] W fun e w' => e = .returned (.bool true) ∧ EnAt B b 3 l' w' ∧ BK B b W w') :
    Calls Tryz.prog 14 #[.pointer (some ⟨b, 0, none⟩), .agg #[.int .i64 6, .string ⟨#[]⟩, .int .i64 0, .slice P m c], .int .i64 D] w fun e w' => e = .returned (.bool true) ∧ EnAt B b 3 l' w' ∧ BK B b w w' := by
  obtain ⟨W0, hW0⟩ : ∃ W, W = w.alloc (.cells #[.int .i64 6, .string ⟨#[]⟩, .int .i64 0, .slice P m c] 24) := ⟨_, rfl⟩
  have hb0 : Below w.heap.size w W0 := by rw [hW0]; exact (Below.refl _ _).alloc (Nat.le_refl _) _
  have HCC : Hid _ := hc W0 hb0
  have HB0 : Hid (BK B b w W0) := BK.of hb0 hBw
  clear hc hb0
  go_enter Tryz.func14, Tryz.ntmps14
  go_wp2_with fail
  rw [← hW0]
  clear hW0
  refine (show Calls _ _ _ _ _ from HCC.out).mono ?_
  rintro e w1 ⟨rfl, he1, hbk1⟩
  have HE1 : Hid _ := he1
  have HB1 : Hid (BK B b w w1) := HB0.out.trans hbk1
  clear he1 hbk1
  go_wp2
  go_returns
  exact ⟨rfl, HE1.out, HB1.out⟩
set_option maxRecDepth 20000 in
set_option maxHeartbeats 4000000 in
theorem erep_7 (B b m c : Nat) (P : Option Addr) (D : Int) (l l' : List UInt8) (w : World) (hBw : B ≤ w.heap.size)
    (hc : ∀ W, Below w.heap.size w W → Calls Tryz.prog 29 #[.pointer (some ⟨b, 0, none⟩), .agg #[.int .i64 7, .string ⟨#[]⟩, .int .i64 0, .slice P m c], .int .i64 D] W fun e w' => e = .returned (.bool true) ∧ EnAt B b 3 l' w' ∧ BK B b W w') :
    Calls Tryz.prog 14 #[.pointer (some ⟨b, 0, none⟩), .agg #[.int .i64 7, .string ⟨#[]⟩, .int .i64 0, .slice P m c], .int .i64 D] w fun e w' => e = .returned (.bool true) ∧ EnAt B b 3 l' w' ∧ BK B b w w' := by
  obtain ⟨W0, hW0⟩ : ∃ W, W = w.alloc (.cells #[.int .i64 7, .string ⟨#[]⟩, .int .i64 0, .slice P m c] 24) := ⟨_, rfl⟩
  have hb0 : Below w.heap.size w W0 := by rw [hW0]; exact (Below.refl _ _).alloc (Nat.le_refl _) _
  have HCC : Hid _ := hc W0 hb0
  have HB0 : Hid (BK B b w W0) := BK.of hb0 hBw
  clear hc hb0
  go_enter Tryz.func14, Tryz.ntmps14
  go_wp2_with fail
  rw [← hW0]
  clear hW0
  refine (show Calls _ _ _ _ _ from HCC.out).mono ?_
  rintro e w1 ⟨rfl, he1, hbk1⟩
  have HE1 : Hid _ := he1
  have HB1 : Hid (BK B b w w1) := HB0.out.trans hbk1
  clear he1 hbk1
  go_wp2
  go_returns
  exact ⟨rfl, HE1.out, HB1.out⟩
set_option maxRecDepth 20000 in
set_option maxHeartbeats 4000000 in
theorem erep_8 (B b m c : Nat) (P : Option Addr) (D : Int) (l l' : List UInt8) (w : World) (hBw : B ≤ w.heap.size)
    (hc : ∀ W, Below w.heap.size w W → Calls Tryz.prog 29 #[.pointer (some ⟨b, 0, none⟩), .agg #[.int .i64 8, .string ⟨#[]⟩, .int .i64 0, .slice P m c], .int .i64 D] W fun e w' => e = .returned (.bool true) ∧ EnAt B b 3 l' w' ∧ BK B b W w') :
    Calls Tryz.prog 14 #[.pointer (some ⟨b, 0, none⟩), .agg #[.int .i64 8, .string ⟨#[]⟩, .int .i64 0, .slice P m c], .int .i64 D] w fun e w' => e = .returned (.bool true) ∧ EnAt B b 3 l' w' ∧ BK B b w w' := by
  obtain ⟨W0, hW0⟩ : ∃ W, W = w.alloc (.cells #[.int .i64 8, .string ⟨#[]⟩, .int .i64 0, .slice P m c] 24) := ⟨_, rfl⟩
  have hb0 : Below w.heap.size w W0 := by rw [hW0]; exact (Below.refl _ _).alloc (Nat.le_refl _) _
  have HCC : Hid _ := hc W0 hb0
  have HB0 : Hid (BK B b w W0) := BK.of hb0 hBw
  clear hc hb0
  go_enter Tryz.func14, Tryz.ntmps14
  go_wp2_with fail
  rw [← hW0]
  clear hW0
  refine (show Calls _ _ _ _ _ from HCC.out).mono ?_
  rintro e w1 ⟨rfl, he1, hbk1⟩
  have HE1 : Hid _ := he1
  have HB1 : Hid (BK B b w w1) := HB0.out.trans hbk1
  clear he1 hbk1
  go_wp2
  go_returns
  exact ⟨rfl, HE1.out, HB1.out⟩
/-- a reply that is no list is written. -/
theorem erep_leaf (B b m c : Nat) (P : Option Addr) (D kind n : Int) (text : By) (l : List UInt8) (w : World) (h : WfH kind text n 0) (hk : lk kind = false) (hE : EnAt B b 3 l w) (hlen : l.length + (headB kind text n 0).length ≤ 140737488355000) (hBw : B ≤ w.heap.size) (hL : ∀ W, Below B w W → Laid W) :
    Calls Tryz.prog 14 #[.pointer (some ⟨b, 0, none⟩), .agg #[.int .i64 kind, .string (strB text), .int .i64 n, .slice P m c], .int .i64 D] w fun e w' => e = .returned (.bool true) ∧ EnAt B b 3 (l ++ headB kind text n 0) w' ∧ BK B b w w' := by
  rcases h with ⟨hk1 | hk1, h1, rfl, _⟩ | ⟨rfl, rfl, h1, _⟩ | ⟨rfl, h1, rfl, _⟩ | ⟨hk1 | hk1, rfl, rfl, _⟩ | ⟨rfl, rfl, h1, _⟩ | ⟨hk1 | hk1 | hk1, rfl, rfl, h1⟩ | ⟨rfl, rfl, rfl, h1, h2⟩
  · subst hk1
    have e : headB 1 text 0 0 = 43 :: ((strB text).data.toList ++ [13, 10]) := by rw [strB_list]; rfl
    rw [e] at hlen ⊢
    exact reply_stat B b m c P 3 0 D l (strB text) (by rw [strB_list]; exact h1) w hE (by simp only [List.length_cons, List.length_append, list_len] at hlen; omega) hBw
  · subst hk1
    have e : headB 2 text 0 0 = 45 :: ((strB text).data.toList ++ [13, 10]) := by rw [strB_list]; rfl
    rw [e] at hlen ⊢
    exact reply_erro B b m c P 3 0 D l (strB text) (by rw [strB_list]; exact h1) w hE (by simp only [List.length_cons, List.length_append, list_len] at hlen; omega) hBw
  · have := reply_int B b m c P 3 n D l (strB []) h1.1 h1.2 w hE (by omega) hBw hL
    exact this
  · have e : headB 4 text 0 0 = 36 :: (Lib.itoa ((strB text).size : Int) ++ [13, 10] ++ ((strB text).data.toList ++ [13, 10])) := by rw [strB_list, strB_size]; rfl
    rw [e] at hlen ⊢
    exact reply_bulk B b m c P 3 0 D l (strB text) w hE (by simp only [List.length_cons, List.length_append, list_len] at hlen; omega) hBw hL
  · subst hk1
    exact reply_null B b m c P 3 0 D l (strB []) w hE (by omega) hBw
  · subst hk1
    exact reply_nulls B b m c P 3 0 D l (strB []) w hE (by omega) hBw
  · have := reply_bool B b m c P 3 n D l (strB []) w hE (by omega) hBw
    rcases h1 with rfl | rfl
    · exact this
    · exact this
  · subst hk1; cases hk
  · subst hk1; cases hk
  · subst hk1; cases hk
  · cases hk
/-- a reply is written. -/
theorem erep_any : ∀ (k : Nat) (hk : k ≤ 32) (B b : Nat) (t : Rn (Rp k)) (v : Value) (l : List UInt8) (w : World), Wf k t → EnAt B b 3 l w → l.length + (enc k t).length ≤ 140737488355000 → B ≤ w.heap.size → (∀ W, Below B w W → Laid W) → RpL (fun g => g < B) k w v t.list →
    Calls Tryz.prog 14 #[.pointer (some ⟨b, 0, none⟩), .agg #[.int .i64 t.kind, .string (strB t.text), .int .i64 t.n, v], .int .i64 (32 - (k : Int))] w fun e w' => e = .returned (.bool true) ∧ EnAt B b 3 (l ++ enc k t) w' ∧ BK B b w w'
  | 0, hk, B, b, t, v, l, w, hw, hE, hlen, hBw, hL, hT => by
    obtain ⟨P, c, rfl⟩ := hT
    exact erep_leaf B b 0 c P _ t.kind t.n t.text l w hw.1 hw.2 hE hlen hBw hL
  | k + 1, hk, B, b, t, v, l, w, hw, hE, hlen, hBw, hL, hT => by
    obtain ⟨P, c, hv⟩ := hT.form
    subst hv
    by_cases hlk : lk t.kind = true
    · have IH : ∀ X ∈ (show List (Rn (Rp k)) from t.list), ∀ (v : Value) (l' : List UInt8) (W' W : World), Below w.heap.size w W' → Below B W' W → B ≤ W.heap.size → EnAt B b 3 l' W → l'.length + (enc k X).length ≤ 140737488355000 → RpL (fun g => g < B) k W v X.list → Calls Tryz.prog 14 #[.pointer (some ⟨b, 0, none⟩), .agg #[.int .i64 X.kind, .string (strB X.text), .int .i64 X.n, v], .int .i64 (32 - ((k + 1 : Nat) : Int) + 1)] W fun e w' => e = .returned (.bool true) ∧ EnAt B b 3 (l' ++ enc k X) w' ∧ BK B b W w' := fun X hX v l' W' W h1 h2 h3 h4 h5 h6 => by
        rw [show (32 : Int) - ((k + 1 : Nat) : Int) + 1 = 32 - (k : Int) by omega]
        exact erep_any k (by omega) B b X v l' W (hw.2 X hX) h4 h5 h3 (fun W2 hW2 => hL W2 (((h1.mono hBw).trans h2).trans hW2)) h6
      have hlim : List.length (show List (Rn (Rp k)) from t.list) ≤ 1073741824 := by
        have : List.length t.list ≤ 1048576 := by
          rcases hw.1 with ⟨h1, _, _, e⟩ | ⟨_, _, _, e⟩ | ⟨_, _, _, e⟩ | ⟨_, _, _, e⟩ | ⟨_, _, _, e⟩ | ⟨_, _, _, e⟩ | ⟨_, _, _, e, _⟩ <;> omega
        exact Nat.le_trans this (by omega)
      have hT2 : ∀ W, Below w.heap.size w W → RpB (fun g => g < B) k (RpL (fun g => g < B) k W) W (.slice P t.list.length c) t.list := fun W hW => hT.on hW
      rcases hw.1 with ⟨hk1 | hk1, _, _, _⟩ | ⟨hk1, _, _, _⟩ | ⟨hk1, _, _, _⟩ | ⟨hk1 | hk1, _, _, _⟩ | ⟨hk1, _, _, _⟩ | ⟨hk1 | hk1 | hk1, htx, hn0, _⟩ | ⟨hk1, htx, hn0, _, hev⟩
      · rw [hk1] at hlk; cases hlk
      · rw [hk1] at hlk; cases hlk
      · rw [hk1] at hlk; cases hlk
      · rw [hk1] at hlk; cases hlk
      · rw [hk1] at hlk; cases hlk
      · rw [hk1] at hlk; cases hlk
      · rw [hk1] at hlk; cases hlk
      · have he : enc (k + 1) t = 42 :: (Lib.itoa ((t.list.length : Nat) : Int) ++ [13, 10]) ++ List.flatMap (enc k) t.list := by
          show headB t.kind t.text t.n (List.length t.list) ++ _ = _
          rw [hk1]; rfl
        rw [hk1, htx, hn0, he]
        rw [he] at hlen
        exact erep_5 B b _ c P _ l _ w hBw (fun W hW => elist_5 k B b _ l _ t.list hlim (by omega) (by omega) W (hE.on hW) hlen (Nat.le_trans hBw hW.size) (fun W2 h2 => hL W2 ((hW.mono hBw).trans h2)) (hT2 W hW) (fun X hX v l' W2 h1 h2 h3 h4 h5 => IH X hX v l' W W2 hW h1 h2 h3 h4 h5))
      · have he : enc (k + 1) t = 126 :: (Lib.itoa ((t.list.length : Nat) : Int) ++ [13, 10]) ++ List.flatMap (enc k) t.list := by
          show headB t.kind t.text t.n (List.length t.list) ++ _ = _
          rw [hk1]; rfl
        rw [hk1, htx, hn0, he]
        rw [he] at hlen
        exact erep_7 B b _ c P _ l _ w hBw (fun W hW => elist_7 k B b _ l _ t.list hlim (by omega) (by omega) W (hE.on hW) hlen (Nat.le_trans hBw hW.size) (fun W2 h2 => hL W2 ((hW.mono hBw).trans h2)) (hT2 W hW) (fun X hX v l' W2 h1 h2 h3 h4 h5 => IH X hX v l' W W2 hW h1 h2 h3 h4 h5))
      · have he : enc (k + 1) t = 62 :: (Lib.itoa ((t.list.length : Nat) : Int) ++ [13, 10]) ++ List.flatMap (enc k) t.list := by
          show headB t.kind t.text t.n (List.length t.list) ++ _ = _
          rw [hk1]; rfl
        rw [hk1, htx, hn0, he]
        rw [he] at hlen
        exact erep_8 B b _ c P _ l _ w hBw (fun W hW => elist_8 k B b _ l _ t.list hlim (by omega) (by omega) W (hE.on hW) hlen (Nat.le_trans hBw hW.size) (fun W2 h2 => hL W2 ((hW.mono hBw).trans h2)) (hT2 W hW) (fun X hX v l' W2 h1 h2 h3 h4 h5 => IH X hX v l' W W2 hW h1 h2 h3 h4 h5))
      · have he : enc (k + 1) t = 37 :: (Lib.itoa (((t.list.length / 2) : Nat) : Int) ++ [13, 10]) ++ List.flatMap (enc k) t.list := by
          show headB t.kind t.text t.n (List.length t.list) ++ _ = _
          rw [hk1]; rfl
        rw [hk1, htx, hn0, he]
        rw [he] at hlen
        exact erep_6 B b _ c P _ l _ w hBw (fun W hW => elist_6 k B b _ l _ t.list hev hlim (by omega) (by omega) W (hE.on hW) hlen (Nat.le_trans hBw hW.size) (fun W2 h2 => hL W2 ((hW.mono hBw).trans h2)) (hT2 W hW) (fun X hX v l' W2 h1 h2 h3 h4 h5 => IH X hX v l' W W2 hW h1 h2 h3 h4 h5))
    · have hkf : lk t.kind = false := by simpa using hlk
      have hl0 : List.length t.list = 0 := by
        rcases hw.1 with ⟨_, _, _, e⟩ | ⟨_, _, _, e⟩ | ⟨_, _, _, e⟩ | ⟨_, _, _, e⟩ | ⟨_, _, _, e⟩ | ⟨hk2, _⟩ | ⟨hk2, _⟩
        · exact e
        · exact e
        · exact e
        · exact e
        · exact e
        · exfalso; rcases hk2 with e | e | e <;> rw [e] at hkf <;> cases hkf
        · exfalso; rw [hk2] at hkf; cases hkf
      have he : enc (k + 1) t = headB t.kind t.text t.n 0 := by
        show headB t.kind t.text t.n (List.length t.list) ++ List.flatMap (enc k) t.list = _
        rw [hl0, List.eq_nil_of_length_eq_zero hl0]
        exact List.append_nil _
      have hw1 := hw.1
      rw [hl0] at hw1
      rw [he] at hlen ⊢
      exact erep_leaf B b _ c P _ t.kind t.n t.text l w hw1 hkf hE hlen hBw hL
set_option maxRecDepth 20000 in
set_option maxHeartbeats 4000000 in
/-- Encode in the third form. -/
theorem encode_any (t : Rn (Rp 32)) (P : Option Addr) (m c : Nat) (w : World) (hw : Wf 32 t) (hne : enc 32 t ≠ []) (hlen : (enc 32 t).length ≤ 140737488355000) (hL : Laid w) (hT : RpL (fun g => g < w.heap.size) 32 w (.slice P m c) t.list) :
    Calls Tryz.prog 7 #[.agg #[.int .i64 t.kind, .string (strB t.text), .int .i64 t.n, .slice P m c], .int .i64 3] w fun e w' => e = .returned (.tuple #[.string (strB (enc 32 t)), .int .i64 0]) ∧ Below w.heap.size w w' := by
  obtain ⟨XT, hXT⟩ : ∃ XT, strB t.text = XT := ⟨_, rfl⟩
  obtain ⟨r2, hr2⟩ : ∃ r, w.heap.size = r := ⟨_, rfl⟩
  obtain ⟨W0, hW0⟩ : ∃ W, W = (w.alloc (.cells #[.int .i64 t.kind, .string XT, .int .i64 t.n, .slice P m c] 24)).alloc (.cells #[.pointer none, .slice none 0 0, .int .i64 3] 52) := ⟨_, rfl⟩
  have hb0 : Below w.heap.size w W0 := by rw [hW0]; exact (((Below.refl _ _).alloc (Nat.le_refl _) _).alloc (by simp) _)
  have hrow : W0.heap[r2]? = some (.cells #[.int .i64 t.kind, .string XT, .int .i64 t.n, .slice P m c] 24) := by
    rw [hW0, ← hr2]; exact keep_row (one_alloc _ _) ((Below.refl _ _).alloc (Nat.le_refl _) _)
  have hen : EnAt w.heap.size (r2 + 1) 3 [] W0 := by
    refine ⟨by omega, _, _, Or.inl rfl, ?_, ⟨rfl, Or.inl ⟨rfl, rfl⟩⟩⟩
    have h9 := one_alloc (w.alloc (.cells #[.int .i64 t.kind, .string XT, .int .i64 t.n, .slice P m c] 24)) (.cells #[.pointer none, .slice none 0 0, .int .i64 3] 52)
    rw [hW0, ← hr2]; simpa using h9
  have HRP : Hid (Calls Tryz.prog 14 #[.pointer (some ⟨r2 + 1, 0, none⟩), .agg #[.int .i64 t.kind, .string XT, .int .i64 t.n, .slice P m c], .int .i64 0] W0 fun e w' => e = .returned (.bool true) ∧ EnAt w.heap.size (r2 + 1) 3 (enc 32 t) w' ∧ BK w.heap.size (r2 + 1) W0 w') := by
    have h9 := erep_any 32 (by omega) w.heap.size (r2 + 1) t (.slice P m c) [] W0 hw hen (by simpa using hlen) hb0.size (fun W hW => hL.on (hb0.trans hW)) (hT.on hb0)
    rw [hXT] at h9
    exact h9
  have HB0 : Hid (Below w.heap.size w W0) := hb0
  have HR2 : Hid (w.heap.size = r2) := hr2
  have HNE : Hid _ := hne
  obtain ⟨z0, z1, z2, z3, zf⟩ := prow4 hrow
  rw [hXT]
  generalize enc 32 t = E at *
  clear hw hT hL hb0 hen hrow hr2 hlen hne
  go_enter Tryz.func7, Tryz.ntmps7
  go_upto_region 4 with fail
  rw [← hW0, HR2.out]
  clear hW0
  go_wp2_with fail
  refine (show Calls _ _ _ _ _ from HRP.out).mono ?_
  rintro e w1 ⟨rfl, he1, hbk1⟩
  have HST : Hid _ := str_any w.heap.size (r2 + 1) 3 _ w1 he1 HNE.out
  have HB1 : Hid (Below w.heap.size w w1) := HB0.out.trans hbk1.bel
  clear he1 hbk1 z0 z1 z2 z3 zf
  go_wp2_with fail
  refine (show Calls _ _ _ _ _ from HST.out).mono ?_
  rintro e w2 ⟨rfl, hb2⟩
  have HB2 : Hid (Below w.heap.size w w2) := HB1.out.trans hb2
  clear hb2
  go_wp2
  go_returns
  exact ⟨rfl, HB2.out⟩
end Go.Proofs.YtkhimjdipggmjaaGreatDoor
