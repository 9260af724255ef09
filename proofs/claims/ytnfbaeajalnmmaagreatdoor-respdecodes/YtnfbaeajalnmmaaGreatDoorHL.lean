import Derived.Test.YtnfbaeajalnmmaaGreatDoorHK
import Derived.Laws.RangeAny
import Derived.Laws.Runes
import Derived.Scope
import Derived.Lib.DecodeN
import Derived.Lib.OthersKept
namespace Go.Proofs.YtnfbaeajalnmmaaGreatDoor
open Go.RowKit Vi
set_option linter.unusedVariables false
set_option linter.unusedSimpArgs false
theorem enc_shape (r : Int) (h0 : 128 ≤ r) (hv : Utf8.valid r = true) : (∃ a b : UInt8, Utf8.encode r = ⟨#[a, b]⟩ ∧ 128 ≤ b.toNat) ∨ 3 ≤ (Utf8.encode r).size ∧ (Utf8.encode r).size ≤ 4 := by
  unfold Utf8.encode
  rw [if_pos hv]
  simp only
  rw [if_neg (by omega)]
  split
  · left
    refine ⟨_, _, rfl, ?_⟩
    rw [UInt8.toNat_ofNat']
    omega
  · right
    split
    · exact ⟨by show 3 ≤ Array.size _; simp, by show Array.size _ ≤ 4; simp⟩
    · exact ⟨by show 3 ≤ Array.size _; simp, by show Array.size _ ≤ 4; simp⟩
theorem valid_is (r : Int) : Lib.validRune r = Utf8.valid r := by
  unfold Lib.validRune Utf8.valid
  by_cases h : (0 ≤ r ∧ r < 55296) ∨ (57344 ≤ r ∧ r ≤ 1114111)
  · rw [decide_eq_true (by omega)]; simp; omega
  · rw [decide_eq_false (by omega)]; simp; omega
theorem ib_nil (c : UInt8) : Lib.indexByte [] c = -1 := rfl
set_option maxHeartbeats 4000000 in
set_option maxRecDepth 20000 in
/-- a rune that is no byte of ASCII is not in a line's end. -/
theorem rune_no (r : Int) (h0 : 128 ≤ r) (h1 : r ≤ 2147483647) (w : World) :
    Calls Tryz.prog 57 #[.string ⟨#[13, 10]⟩, .int .i32 r] w fun e w' => e = .returned (.int .i64 (-1)) ∧ Below w.heap.size w w' := by
  have hd0 : decide (0 ≤ r) = true := dec_t (by omega)
  have hd1 : decide (r < 128) = false := dec_f (by omega)
  by_cases he : r = 65533
  · subst he
    go_enter Tryz.func57, Tryz.ntmps57
    go_wp2
    go_loopg [5, 6] 2 (fun g _ _ wx => ∃ i : Nat, i + g = 2 ∧ wx = w.iter ⟨#[13, 10]⟩ i)
    case atStart => exact ⟨0, rfl, rfl⟩
    case round =>
      obtain ⟨i, hig, rfl⟩ := hrel
      cases gk with
      | zero =>
        obtain rfl : i = 2 := by omega
        have hnx := fun ty => run_next_end (P := Tryz.prog) w ⟨#[13, 10]⟩ 2 ty (by decide)
        go_wp2
        go_returns
        exact ⟨rfl, (Below.refl _ _).alloc (Nat.le_refl _) _⟩
      | succ g =>
        cases g with
        | zero =>
          obtain rfl : i = 1 := by omega
          have hnx := fun ty => run_next_ascii (P := Tryz.prog) w ⟨#[13, 10]⟩ 1 ty (by decide) (by decide)
          rw [show ((⟨#[13, 10]⟩ : ByteArray)[1]'(by decide)).toNat = 10 from rfl] at hnx
          go_wp2
          go_roundg 0
          case measure => omega
          case rel => exact ⟨2, rfl, rfl⟩
        | succ g =>
          have hi0 : i = 0 := by omega
          have hg0 : g = 0 := by omega
          subst hi0
          subst hg0
          have hnx := fun ty => run_next_ascii (P := Tryz.prog) w ⟨#[13, 10]⟩ 0 ty (by decide) (by decide)
          rw [show ((⟨#[13, 10]⟩ : ByteArray)[0]'(by decide)).toNat = 13 from rfl] at hnx
          go_wp2
          go_roundg 1
          case measure => omega
          case rel => exact ⟨1, rfl, rfl⟩
  have hen : (r == 65533) = false := by simpa using he
  have HV : Hid (∀ W, Calls Tryz.prog 71 #[.int .i32 r] W fun e w' => e = .returned (.bool (Utf8.valid r)) ∧ w' = W) := fun W => by
    have := Tryz.utf8_ValidRune r W
    rw [valid_is] at this; exact this
  cases hv : Utf8.valid r with
  | false =>
    rw [hv] at HV
    clear hv
    go_enter Tryz.func57, Tryz.ntmps57
    go_wp2_with fail
    refine (HV.out _).mono ?_
    rintro e w1 ⟨rfl, rfl⟩
    go_wp2
    go_returns
    exact ⟨rfl, Below.refl _ _⟩
  | true =>
    rw [hv] at HV
    have hsh := enc_shape r h0 hv
    obtain ⟨E, hE⟩ : ∃ E, Utf8.encode r = E := ⟨_, rfl⟩
    rw [hE] at hsh
    clear hv
    rcases hsh with ⟨a, b, rfl, hb⟩ | ⟨h3, h4⟩
    · have hb0 : ((((⟨#[13, 10]⟩ : ByteArray)[1]'(show 1 < 2 by omega)).toNat : Int) != (((⟨#[a, b]⟩ : ByteArray)[1]'(show 1 < 2 by omega)  ).toNat : Int)) = true := by
        rw [show (((⟨#[13, 10]⟩ : ByteArray)[1]'(show 1 < 2 by omega)).toNat) = 10 from rfl, show (((⟨#[a, b]⟩ : ByteArray)[1]'(show 1 < 2 by omega)).toNat) = b.toNat from rfl]
        simp; omega
      have HIB : Hid (∀ W, Calls Tryz.prog 40 #[.string ⟨#[]⟩, .int .u8 (b.toNat : Int)] W fun e w' => e = .returned (.int .i64 (-1)) ∧ w' = W) := fun W => Tryz.strings_IndexByte ⟨#[]⟩ (b.toNat : Int) W
      have hw2 : IntKind.i64.wrap ((1 : Int) + 1) = 2 := by decide
      have he2 : (⟨#[13, 10]⟩ : ByteArray).extract 2 2 = ⟨#[]⟩ := by decide +kernel
      go_enter Tryz.func57, Tryz.ntmps57
      go_wp2_with fail
      refine (HV.out _).mono ?_
      rintro e w1 ⟨rfl, rfl⟩
      go_wp2
      apply wp_scope_straight
      go_wp2
      go_loopg [9] 0 (fun g c wx => c = .int .i64 1 ∧ wx = w1)
      case atStart => exact ⟨rfl, rfl⟩
      case round =>
        obtain ⟨rfl, rfl⟩ := hrel
        go_wp2
        apply wp_scope_straight
        go_wp2_with fail
        go_quiet (fail)
        obtain ⟨W2, hW2⟩ : ∃ W2, wr.drewN nq = W2 := ⟨_, rfl⟩
        have HB2 : Hid (Below wr.heap.size wr W2) := by rw [← hW2]; exact below_dn (Below.refl _ _) nq
        rw [hW2]
        clear hW2
        go_wp2_with fail
        go_quiet ((go_at_call 40; exact Calls.quiet_of_same (HIB.out _)))
        go_wp2
        simp only [Exit.noGoto, Exit.inBlock, Exit.then]
        go_returns
        exact ⟨rfl, below_dn HB2.out _⟩
    · go_enter Tryz.func57, Tryz.ntmps57
      go_wp2_with fail
      refine (HV.out _).mono ?_
      rintro e w1 ⟨rfl, rfl⟩
      go_wp2
      apply wp_scope_straight
      go_wp2
      go_loopg [9] 0 (fun g c wx => c = .int .i64 ((E.size : Int) - 1) ∧ wx = w1)
      case atStart => exact ⟨by go_num, rfl⟩
      case round =>
        obtain ⟨rfl, rfl⟩ := hrel
        have hlt : decide ((E.size : Int) - 1 < 2) = false := dec_f (by omega)
        go_wp2
        simp only [Exit.noGoto, Exit.inBlock, Exit.then]
        go_returns
        exact ⟨rfl, Below.refl _ _⟩
end Go.Proofs.YtnfbaeajalnmmaaGreatDoor
namespace Go.Proofs.YtnfbaeajalnmmaaGreatDoor
open Go.RowKit Vi
set_option linter.unusedVariables false
set_option linter.unusedSimpArgs false
def elI (l : By) : Int := match elAt l with
  | some i => (i : Int)
  | none => -1
theorem elI_cons (b : UInt8) (l : By) : elI (b :: l) = if b = 13 ∨ b = 10 then 0 else if elI l = -1 then -1 else elI l + 1 := by
  unfold elI elAt
  rw [List.findIdx?_cons]
  by_cases h : b = 13 ∨ b = 10
  · have : (b == 13 || b == 10) = true := by simpa using h
    rw [this, if_pos h]; rfl
  · have : (b == 13 || b == 10) = false := by simpa using h
    rw [this, if_neg h]
    cases hf : List.findIdx? (fun b => b == 13 || b == 10) l with
    | none => simp
    | some i => simp
theorem ia_is : ∀ l : By, Lib.indexAny l [13, 10] = elI l
  | [] => rfl
  | b :: l => by
    rw [elI_cons, Lib.indexAny, ia_is l]
    by_cases h : b = 13 ∨ b = 10
    · rw [if_pos h, if_pos (by simpa using h)]
    · rw [if_neg h, if_neg (by simpa using h)]
      by_cases h2 : elI l = -1
      · rw [if_pos h2, if_pos (by simpa using h2)]
      · rw [if_neg h2, if_neg (by simpa using h2)]
/-- nothing of a line's end stands ahead of a place. -/
def NoEl (l : By) (i : Nat) : Prop := ∀ c ∈ l.take i, c ≠ 13 ∧ c ≠ 10
theorem noel_end {l : By} {i : Nat} (h : NoEl l i) (hi : l.length ≤ i) : elI l = -1 := by
  unfold NoEl at h
  rw [List.take_of_length_le hi] at h
  unfold elI
  have : elAt l = none := List.findIdx?_eq_none_iff.2 (fun c hc => by have := h c hc; simpa using this)
  rw [this]
theorem noel_hit {l : By} {i : Nat} (h : NoEl l i) (hi : i < l.length) (hc : l[i] = 13 ∨ l[i] = 10) : elI l = (i : Int) := by
  unfold elI
  have : elAt l = some i := by
    refine List.findIdx?_eq_some_iff_getElem.2 ⟨hi, by simpa using hc, fun j hj => ?_⟩
    have := h l[j] (by rw [List.mem_take_iff_getElem]; exact ⟨j, by omega, rfl⟩)
    simpa using this
  rw [this]
theorem noel_step {l : By} {i k : Nat} (h : NoEl l i) (hk : ∀ j, i ≤ j → j < i + k → ∀ hj : j < l.length, l[j] ≠ 13 ∧ l[j] ≠ 10) : NoEl l (i + k) := by
  intro c hc
  rw [List.mem_take_iff_getElem] at hc
  obtain ⟨j, hj, rfl⟩ := hc
  rcases Nat.lt_or_ge j i with h1 | h1
  · exact h _ (by rw [List.mem_take_iff_getElem]; exact ⟨j, by omega, rfl⟩)
  · exact hk j h1 (by omega) (by omega)
theorem dec_big (s : ByteArray) (i : Nat) (hi : i < s.size) (hb : 128 ≤ s[i].toNat) :
    128 ≤ (Utf8.decode s i).1 ∧ (Utf8.decode s i).1 ≤ 1114111 ∧ 1 ≤ (Utf8.decode s i).2 ∧ (i + (Utf8.decode s i).2 ≤ s.size) ∧ ∀ j, i ≤ j → j < i + (Utf8.decode s i).2 → ∀ hj : j < s.data.toList.length, s.data.toList[j] ≠ 13 ∧ s.data.toList[j] ≠ 10 := by
  have hg : ∀ k (hk : k < s.size), (s.get! k).toNat = s[k].toNat := fun k hk => by
    have : s.get! k = s[k] := by simp [ByteArray.get!, getElem!_pos, hk]; rfl
    rw [this]
  have hl : ∀ k (hk : k < s.size) (hk' : k < s.data.toList.length), s.data.toList[k] = s[k] := fun k hk hk' => by
    have := at_list s k hk
    rw [List.getElem?_eq_getElem hk'] at this
    injection this
  have hne : ∀ k (hk : k < s.size) (hk' : k < s.data.toList.length), 128 ≤ (s.get! k).toNat → s.data.toList[k] ≠ 13 ∧ s.data.toList[k] ≠ 10 := fun k hk hk' h => by
    rw [hl k hk hk']
    rw [hg k hk] at h
    constructor
    · intro e; rw [e] at h; exact absurd h (by decide)
    · intro e; rw [e] at h; exact absurd h (by decide)
  have hlen := list_len s
  rw [Lib.decode_at]
  have h0 : 128 ≤ (s.get! i).toNat := by rw [hg i hi]; exact hb
  have hlt : ∀ k, (s.get! k).toNat < 256 := fun k => UInt8.toNat_lt _
  have l0 := hlt i; have l1 := hlt (i + 1); have l2 := hlt (i + 2); have l3 := hlt (i + 3)
  have n0 := hne i hi; have n1 := hne (i + 1); have n2 := hne (i + 2); have n3 := hne (i + 3)
  generalize (s.get! i).toNat = b0 at *
  generalize (s.get! (i + 1)).toNat = b1 at *
  generalize (s.get! (i + 2)).toNat = b2 at *
  generalize (s.get! (i + 3)).toNat = b3 at *
  have one : ∀ j, i ≤ j → j < i + 1 → ∀ hj : j < s.data.toList.length, s.data.toList[j] ≠ 13 ∧ s.data.toList[j] ≠ 10 := fun j h1 h2 hj => by
    have : j = i := by omega
    subst this
    exact n0 hj h0
  unfold Lib.decodeN
  rw [if_neg (by omega)]
  split
  · rename_i h
    split
    · refine ⟨by omega, by simp only; omega, by simp, by simp only; omega, fun j h1 h2 hj => ?_⟩
      simp only at h2
      rcases (show j = i ∨ j = i + 1 by omega) with rfl | rfl
      · exact n0 hj h0
      · exact n1 (by omega) hj (by omega)
    · exact ⟨by simp, by simp, by simp, by simp only; omega, one⟩
  · split
    · rename_i h
      split
      · refine ⟨by simp only; omega, by simp only; omega, by simp, by simp only; omega, fun j h1 h2 hj => ?_⟩
        simp only at h2
        rcases (show j = i ∨ j = i + 1 ∨ j = i + 2 by omega) with rfl | rfl | rfl
        · exact n0 hj h0
        · exact n1 (by omega) hj (by omega)
        · exact n2 (by omega) hj (by omega)
      · exact ⟨by simp, by simp, by simp, by simp only; omega, one⟩
    · split
      · rename_i h
        split
        · refine ⟨by simp only; omega, by simp only; omega, by simp, by simp only; omega, fun j h1 h2 hj => ?_⟩
          simp only at h2
          rcases (show j = i ∨ j = i + 1 ∨ j = i + 2 ∨ j = i + 3 by omega) with rfl | rfl | rfl | rfl
          · exact n0 hj h0
          · exact n1 (by omega) hj (by omega)
          · exact n2 (by omega) hj (by omega)
          · exact n3 (by omega) hj (by omega)
        · exact ⟨by simp, by simp, by simp, by simp only; omega, one⟩
      · exact ⟨by simp, by simp, by simp, by simp only; omega, one⟩
theorem ib_el (x : UInt8) : (x = 13 ∨ x = 10) ↔ 0 ≤ Lib.indexByte [13, 10] x := by
  by_cases h : x = 13
  · subst h; decide
  · by_cases h2 : x = 10
    · subst h2; decide
    · have e1 : ((13 : UInt8) == x) = false := by simpa using fun e => h e.symm
      have e2 : ((10 : UInt8) == x) = false := by simpa using fun e => h2 e.symm
      simp [Lib.indexByte, e1, e2, h, h2]
set_option maxHeartbeats 8000000 in
set_option maxRecDepth 20000 in
/-- IndexAny of a line's end in a short text, whatever its bytes are. -/
theorem ia_short (s : ByteArray) (h8 : s.size ≤ 8) (w : World) :
    Calls Tryz.prog 38 #[.string s, .string ⟨#[13, 10]⟩] w fun e w' => e = .returned (.int .i64 (elI s.data.toList)) ∧ Below w.heap.size w w' := by
  have h8z : decide ((8 : Int) < (s.size : Int)) = false := dec_f (by omega)
  have HSU : Hid (∀ W, Calls Tryz.prog 58 #[.int .i64 (s.size : Int)] W fun e w' => e = .returned (.bool false) ∧ w' = W) := fun W => by
    have := Tryz.strings_shouldUseASCIISet (s.size : Int) W
    rw [h8z] at this; exact this
  have hlen := list_len s
  go_enter Tryz.func38, Tryz.ntmps38
  go_wp2_with fail
  refine (HSU.out _).mono ?_
  rintro e w1 ⟨rfl, rfl⟩
  go_wp2_with fail
  have HK0 : Hid ((w1.iter s 0).heap[w1.heap.size]? = some (.stringIter s 0)) := by show _ = _; exact World.iter_heap _ _ _
  obtain ⟨k, hk⟩ : ∃ k, w1.heap.size = k := ⟨_, rfl⟩
  rw [hk] at HK0
  have HBI : Hid (Below k w1 (w1.iter s 0)) := by rw [← hk]; exact (Below.refl _ _).alloc (Nat.le_refl _) _
  rw [hk]
  generalize w1.iter s 0 = W0 at *
  go_loopg [9, 10] s.size (fun g _ _ wx => ∃ i : Nat, i ≤ s.size ∧ g = s.size - i ∧ wx.heap[k]? = some (.stringIter s i) ∧ Below k w1 wx ∧ NoEl s.data.toList i)
  case atStart => exact ⟨0, by omega, rfl, HK0.out, HBI.out, fun c hc => by simp at hc⟩
  case round =>
    obtain ⟨i, hi, hgk, hit, hbel, hno⟩ := hrel
    have HN : Hid (NoEl s.data.toList i) := hno
    have HB : Hid (Below k w1 wr) := hbel
    have HKK : Hid (w1.heap.size = k) := hk
    have HIT : Hid (wr.heap[k]? = some (.stringIter s i)) := hit
    clear hno hbel hk
    by_cases hlt : i < s.size
    · obtain ⟨x, hx⟩ : ∃ x, s[i] = x := ⟨_, rfl⟩
      have hxl : s.data.toList[i]'(by rw [hlen]; exact hlt) = x := by
        have := at_list s i hlt
        rw [List.getElem?_eq_getElem (by rw [hlen]; exact hlt)] at this
        injection this with this
      by_cases ha : x.toNat < 128
      · have hnx := fun ty => Lib.run_next_ascii_at (P := Tryz.prog) wr k s i ty hit hlt (by rw [hx]; exact ha)
        rw [hx] at hnx
        have HI2 : Hid _ := Lib.iterAt_heap wr k s i (i + 1) hit
        have HB2 : Hid (Below k w1 (wr.iterAt k s (i + 1))) := HB.out.trans ⟨rfl, rfl, rfl, by simp [World.iterAt], fun j hj => by simp [World.iterAt, Array.getElem?_setIfInBounds]; intro e; omega⟩
        generalize wr.iterAt k s (i + 1) = W2 at *
        have HIR : Hid (∀ W, Calls Tryz.prog 57 #[.string ⟨#[13, 10]⟩, .int .i32 (x.toNat : Int)] W fun e w' => e = .returned (.int .i64 (Lib.indexByte [13, 10] x)) ∧ w' = W) := fun W => by
          have := Tryz.strings_IndexRune_ascii ⟨#[13, 10]⟩ (x.toNat : Int) W (by omega) (by omega)
          rw [show ((x.toNat : Int)).toNat.toUInt8 = x by simp] at this
          exact this
        have hib := ib_el x
        clear hit
        by_cases hel : x = 13 ∨ x = 10
        · have hge : (0 : Int) ≤ Lib.indexByte [13, 10] x := hib.1 hel
          have HE : Hid (elI s.data.toList = (i : Int)) := noel_hit HN.out (by rw [hlen]; exact hlt) (by rw [hxl]; exact hel)
          have hdg : decide ((0 : Int) ≤ Lib.indexByte [13, 10] x) = true := dec_t hge
          generalize Lib.indexByte [13, 10] x = ii at *
          clear hib hel
          go_wp2_with fail
          refine (HIR.out _).mono ?_
          rintro e w3 ⟨rfl, rfl⟩
          go_wp2
          go_returns
          exact ⟨by rw [HE.out]; rfl, by rw [HKK.out]; exact HB2.out⟩
        · have hge : ¬ (0 : Int) ≤ Lib.indexByte [13, 10] x := fun h => hel (hib.2 h)
          have hdg : decide ((0 : Int) ≤ Lib.indexByte [13, 10] x) = false := dec_f hge
          have HS : Hid (NoEl s.data.toList (i + 1)) := noel_step HN.out (fun j h1 h2 hj => by
            have : j = i := by omega
            subst this
            rw [hxl]
            exact ⟨fun e => hel (Or.inl e), fun e => hel (Or.inr e)⟩)
          generalize Lib.indexByte [13, 10] x = ii at *
          clear hib hel
          go_wp2_with fail
          refine (HIR.out _).mono ?_
          rintro e w3 ⟨rfl, rfl⟩
          go_wp2
          go_roundg (gk - 1)
          case measure => omega
          case rel => exact ⟨i + 1, by omega, by omega, HI2.out, HB2.out, HS.out⟩
      · have hbig := dec_big s i hlt (by rw [hx]; omega)
        have hnx := fun ty => Lib.run_next_any_at (P := Tryz.prog) wr k s i ty hit hlt
        obtain ⟨d1, d2, hd⟩ : ∃ d1 d2, Utf8.decode s i = (d1, d2) := ⟨_, _, rfl⟩
        rw [hd] at hbig hnx
        obtain ⟨g1, g2, g3, g4, g5⟩ := hbig
        simp only at hnx g1 g2 g3 g4 g5
        have HI2 : Hid _ := Lib.iterAt_heap wr k s i (i + d2) hit
        have HB2 : Hid (Below k w1 (wr.iterAt k s (i + d2))) := HB.out.trans ⟨rfl, rfl, rfl, by simp [World.iterAt], fun j hj => by simp [World.iterAt, Array.getElem?_setIfInBounds]; intro e; omega⟩
        have HSZ : Hid (k < (wr.iterAt k s (i + d2)).heap.size) := row_lt HI2.out
        generalize wr.iterAt k s (i + d2) = W2 at *
        have HIR : Hid _ := rune_no (d1 : Int) (by omega) (by omega) W2
        have HS : Hid (NoEl s.data.toList (i + d2)) := noel_step HN.out g5
        clear hit g5 hd
        go_wp2_with fail
        refine (show Calls _ _ _ _ _ from HIR.out).mono ?_
        rintro e w3 ⟨rfl, hb3⟩
        have HB3 : Hid (Below k w1 w3) := HB2.out.trans (hb3.mono (Nat.le_of_lt HSZ.out))
        have HI3 : Hid (w3.heap[k]? = some (.stringIter s (i + d2))) := keep_row HI2.out hb3
        clear hb3
        go_wp2
        go_roundg (s.size - (i + d2))
        case measure => omega
        case rel => exact ⟨i + d2, by omega, rfl, HI3.out, HB3.out, HS.out⟩
    · have hnx := fun ty => Lib.run_next_end_at (P := Tryz.prog) wr k s i ty hit hlt
      have HE : Hid (elI s.data.toList = -1) := noel_end HN.out (by rw [hlen]; omega)
      clear hit
      go_wp2
      go_returns
      exact ⟨by rw [HE.out]; rfl, by rw [HKK.out]; exact HB.out⟩
/-- IndexAny of a line's end. -/
theorem ia_any (s : ByteArray) (hs : s.size ≤ 1073741824) (w : World) :
    Calls Tryz.prog 38 #[.string s, .string ⟨#[13, 10]⟩] w fun e w' => e = .returned (.int .i64 (elI s.data.toList)) ∧ Below w.heap.size w w' := by
  by_cases h8 : s.size ≤ 8
  · exact ia_short s h8 w
  · have hz : ∀ w, (zeroValue 101).run Tryz.prog w = .ok (.agg (Array.replicate 256 (.bool false))) w := (zero_of_info (n := 256) (by kernel_rfl)).1
    refine (Tryz.strings_IndexAny_long hz s ⟨#[13, 10]⟩ w (by decide) (by omega) (by omega) (by decide) (fun j b hj => ?_)).mono ?_
    · match j, hj with
      | 0, hj => injection hj with hj; rw [← hj]; decide
      | 1, hj => injection hj with hj; rw [← hj]; decide
      | j + 2, hj => simp at hj
    · rintro e w' ⟨rfl, rfl⟩
      rw [show (⟨#[13, 10]⟩ : ByteArray).data.toList = [13, 10] from rfl, ia_is]
      exact ⟨rfl, ((Below.refl _ _).alloc (Nat.le_refl _) _).alloc (by simp) _⟩
end Go.Proofs.YtnfbaeajalnmmaaGreatDoor
