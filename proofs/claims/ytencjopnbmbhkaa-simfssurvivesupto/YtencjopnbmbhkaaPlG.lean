import Derived.Test.YtencjopnbmbhkaaPlF
import Derived.BigQuiet
namespace Go.Proofs.Ytencjopnbmbhkaa
open Go.RowKit Go.Maps
set_option linter.unusedVariables false
set_option linter.unusedSimpArgs false
theorem safe_stE {w0 W : World} {g : Nat} {X : Gh} {F : Fs} {i n : Nat} (h : St w0 W g X F i) (hn : F.sure.length = n) : Calls Try.prog 9 #[ptr (some g)] W fun e w' => ∃ P c, e = .returned (.slice P n c) ∧ EvR W.heap.size w' (.slice P n c) (safeM F) ∧ Below W.heap.size W w' := by
  refine (Safe_any g X F W h.fs).mono ?_
  rintro e w' ⟨v, rfl, ho, hb⟩
  obtain ⟨P, c, rfl⟩ := own_form ho
  rw [hn] at ho
  exact ⟨P, c, by rw [hn], by unfold EvR; rw [safe_len, hn]; exact ho, hb⟩
def nmB (A : ByteArray) (e : ByteArray × ByteArray) : Bool := decide (e.1 = A)
def ws2 (V : ByteArray) (e : ByteArray × ByteArray) : Bool := preB V e.2
def anyT (f : ByteArray × ByteArray → Bool) (l : List (ByteArray × ByteArray)) (k : Nat) : Bool := (l.take k).any f
theorem anyT_zero (f : ByteArray × ByteArray → Bool) (l : List (ByteArray × ByteArray)) : anyT f l 0 = false := by unfold anyT; simp
theorem anyT_succ (f : ByteArray × ByteArray → Bool) (l : List (ByteArray × ByteArray)) (k : Nat) (hk : k < l.length) : anyT f l (k + 1) = (anyT f l k || f l[k]) := by
  unfold anyT
  rw [List.take_add_one, List.getElem?_eq_getElem hk, List.any_append]
  simp
theorem anyT_all {f : ByteArray × ByteArray → Bool} {l : List (ByteArray × ByteArray)} (h : ∃ e ∈ l, f e = true) : anyT f l l.length = true := by
  unfold anyT
  rw [List.take_length, List.any_eq_true]
  exact h
def chB (p : List Int) (k : Nat) : Bool := decide (0 < k) && (match p with | [] => false | x :: _ => decide (0 < x))
theorem chB_zero (p : List Int) : chB p 0 = false := rfl
theorem chB_one {p : List Int} (h : 0 < p.length) : chB p 1 = decide (0 < p[0]) := by
  cases p with
  | nil => simp at h
  | cons x p => rfl
theorem chB_more {p : List Int} {k : Nat} (h : 0 < k) : chB p (k + 1) = chB p k := by
  unfold chB; rw [decide_eq_true h, decide_eq_true (Nat.succ_pos k)]
theorem chB_none {p : List Int} (h : chB p p.length = false) (n : Nat) : pickM p 0 n = 0 := by
  cases p with
  | nil => rfl
  | cons x p =>
    have hx : ¬ 0 < x := by
      unfold chB at h
      simpa using h
    unfold pickM
    simp only [List.getElem?_cons_zero]
    split
    · rfl
    · have : x = 0 := by omega
      subst this
      rfl
set_option maxHeartbeats 16000000 in
set_option maxRecDepth 100000 in
theorem Survives_walk (ad : Option Addr) (G off len cap : Nat) (pv : Value) (p : List Int) (w : World) (hA : len ≠ 0 → ad = some ⟨G, off, none⟩) (hL : len ≤ 1048576) (hO : ∀ i, i < len → ∃ o pv, OpA w.heap.size w G (off + i * 7) o pv) (hP : KR pinE w pv p) (hPL : p.length ≤ 1048576) (hPB : p ≠ [] → ∀ b x n c, pv = .slice (some ⟨b, x, none⟩) n c → b < w.heap.size) :
    Calls Try.prog 3 #[.slice ad len cap, pv] w fun e w' => e = .returned (.bool true) ∧ Below w.heap.size w w' := by
  obtain ⟨PP, pc, rfl⟩ := hP.form
  have HNW : Hid _ := NewW_any w
  have HWK : Hid (∀ W, Calls Try.prog 6 #[] W fun e w' => e = .returned (.bool true) ∧ Below W.heap.size W w') := works_any
  have HO : Hid _ := hO
  have HA : Hid _ := hA
  have HL : Hid (len ≤ 1048576) := hL
  have HP : Hid (KR pinE w (.slice PP p.length pc) p) := hP
  have HPL : Hid (p.length ≤ 1048576) := hPL
  have HPB : Hid (p ≠ [] → ∀ b x n c, (Value.slice PP p.length pc) = .slice (some ⟨b, x, none⟩) n c → b < w.heap.size) := hPB
  clear hO hA hP hPB hL hPL
  go_enter Try.func3, Try.ntmps3
  go_wp2_with fail
  refine (show Calls _ _ _ _ _ from HNW.out).mono ?_
  rintro e w1 ⟨g, X, rfl, hk⟩
  have H1 : Hid (St w w1 g X newM 0) := St.new hk
  clear hk HNW
  go_wp2_with fail
  refine (show Calls _ _ _ _ _ from HWK.out _).mono ?_
  rintro e w2 ⟨rfl, hb2⟩
  have H2 : Hid (St w w2 g X newM 0) := H1.out.on hb2
  clear hb2 H1 HWK
  go_wp2
  go_loopw [7, 6] (fun ci ev wr => ∃ (i : Nat) (F : Fs) (X : Gh) (E : List (ByteArray × ByteArray)), i ≤ len ∧ ci = .int .i64 (i : Int) ∧ St w wr g X F i ∧ Calm F ∧ Ev F E ∧ E.length ≤ 64 * i ∧ EvR w.heap.size wr ev E) (fun ci _ _ => len - (intOf ci).toNat)
  case atStart => exact ⟨0, newM, X, [], Nat.zero_le _, rfl, H2.out, ⟨rfl, rfl, rfl⟩, Ev.new, Nat.le_refl _, EvR.nil⟩
  case round =>
    obtain ⟨i, F, X, E, hi, rfl, hst, hcalm, hev, hEl, her⟩ := hrel
    obtain ⟨PE, ce, rfl⟩ := own_form her
    have HST : Hid (St w wr g X F i) := hst
    have HCM : Hid (Calm F) := hcalm
    have HEV : Hid (Ev F E) := hev
    have HEL : Hid (E.length ≤ 64 * i) := hEl
    have HER : Hid (EvR w.heap.size wr (.slice PE E.length ce) E) := her
    clear hst hcalm hev hEl her
    by_cases hlt : i < len
    · have had := HA.out (by omega)
      subst had
      obtain ⟨o, pv, hop⟩ := HO.out i hlt
      have HOP : Hid (OpA w.heap.size wr G (off + i * 7) o pv) := hop.on HST.out.bel
      obtain ⟨C, hC⟩ : ∃ C, C = opArr o pv := ⟨_, rfl⟩
      have HC : Hid (C = opArr o pv) := hC
      have HCS : Hid (C.size = 7) := by show _ = _; rw [hC]; rfl
      have HC1 : Hid (C.all (·.oneCell') = true) := by
        show _ = true
        obtain ⟨P, c, e⟩ := hop.kr.form
        rw [hC, e]
        simp only [opArr, List.all_toArray, List.all_cons, List.all_nil, Bool.and_true]
        rfl
      obtain ⟨Z, hZ⟩ : ∃ Z, Z = zO := ⟨_, rfl⟩
      have HZ : Hid (Z = zO) := hZ
      have HZS : Hid (Z.size = 7) := by show _ = _; rw [hZ]; rfl
      have hz3 : (0 : Int) ≤ (i : Int) := by omega
      have hz4 : (i : Int) < (len : Int) := by omega
      have HLT : Hid (i < len) := hlt
      have HOK : Hid (PoOk o) := hop.ok
      have HIN : Hid (i + 1 ≤ len) := hlt
      have HIW : Hid (IntKind.i64.wrap ((i : Int) + 1) = (i : Int) + 1) := by have := HL.out; show _ = _; rw [IntKind.wrap_i64] <;> omega
      obtain ⟨R, hR⟩ : ∃ R, wr.heap.size = R := ⟨_, rfl⟩
      have HRR : Hid (wr.heap.size = R) := hR
      clear hop hC hZ hR hlt
      go_upto_region 9 with (first
        | (refine ldO C w.heap.size G (off + i * 7) o pv _ rfl rfl rfl HOP.out HC.out ?_)
        | (refine alO rfl rfl Z HZ.out ?_)
        | (refine stO rfl _ _ rfl wr.heap.size C Z rfl rfl HCS.out HC1.out HZS.out (one_alloc _ _) ?_; intro Wo hro hoo))
      have hbo : Below wr.heap.size wr Wo := ((Below.refl _ wr).alloc (Nat.le_refl _) _).trans (hoo.below (Nat.le_refl _))
      have HSo : Hid (St w Wo g X F i) := HST.out.on hbo
      have HRo : Hid (Wo.heap[R]? = some (.cells C 29)) := by show _ = _; rw [← HRR.out]; exact hro
      have HOPo : Hid (OpA w.heap.size Wo G (off + i * 7) o pv) := HOP.out.on (hbo.mono HST.out.bel.size)
      have HERo : Hid (EvR w.heap.size Wo (.slice PE E.length ce) E) := HER.out.on hbo
      rw [HRR.out]
      have hr0 := HRo.out
      rw [HC.out] at hr0
      have x0 := (row7 hr0).1
      clear hbo hoo hro HOP HST hr0 HER hz3 hz4 hi HRR HZ HZS HC1 Z
      obtain ⟨ok, hok⟩ : ∃ ok, o.k = ok := ⟨_, rfl⟩
      rw [hok] at x0
      have HKK : Hid (o.k = ok) := hok
      by_cases e7 : ok = 7
      · subst e7
        clear hok
        have hiw := HIW.out
        go_wp2
        go_roundw
        case rel => exact ⟨i + 1, F, X, E, HIN.out, rfl, HSo.out.more (Nat.le_succ _), HCM.out, HEV.out, by have := HEL.out; omega, HERo.out⟩
        case measure => have := HIN.out; simp [intOf]; omega
      by_cases e6 : ok = 6
      · subst e6
        clear hok
        have hiw := HIW.out
        go_wp2
        go_roundw
        case rel => exact ⟨i + 1, F, X, E, HIN.out, rfl, HSo.out.more (Nat.le_succ _), HCM.out, HEV.out, by have := HEL.out; omega, HERo.out⟩
        case measure => have := HIN.out; simp [intOf]; omega
      have n7 : (ok == 7) = false := by simpa using e7
      have n6 : (ok == 6) = false := by simpa using e6
      obtain ⟨F', r, hdm⟩ : ∃ F' r, doneM F o = (F', r) := ⟨_, _, rfl⟩
      have HMV : Hid (Mv o F F') := by
        have := done_mv HCM.out o (by rw [hok]; exact e6) (by rw [hok]; exact e7)
        rw [hdm] at this
        exact this
      have HQ : Hid (Calls Try.prog 7 #[.pointer (some ⟨g, 0, none⟩), .agg C] Wo fun e w' => DoneP w Wo g X F F' r i e w') := done_st HSo.out (by have := HLT.out; have := HL.out; omega) HC.out HOK.out (HOPo.out.pks HSo.out.own) hdm
      clear hdm hok e6 e7
      go_wp2_with (first
        | (refine ldR C R _ rfl rfl rfl HRo.out HCS.out ?_))
      refine (show Calls _ _ _ _ _ from HQ.out).mono ?_
      rintro e w6 ⟨rfl, ⟨X6, hst6⟩, hmd⟩
      have HS6 : Hid (St w w6 g X6 F' (i + 1)) := hst6
      have HE6 : Hid (EvR w.heap.size w6 (.slice PE E.length ce) E) := HERo.out.mod HSo.out.fs.toFsC hmd
      have HEV6 : Hid (Ev F' ((if o.k = 4 then [] else E) ++ nowM F')) := Ev.step HSo.out.fs.ok hst6.fs.ok HEV.out HMV.out
      have hr6 := op_mod HRo.out HSo.out.fs.toFsC hmd
      rw [HC.out] at hr6
      have y0 := (row7 hr6).1
      rw [HKK.out] at y0
      clear hst6 hmd HQ HSo HRo HOPo HERo HOK hr6 x0 n6 n7
      have HN6 : Hid (Calls Try.prog 8 #[.pointer (some ⟨g, 0, none⟩)] w6 fun e w' => NowP w6 (nowM F') F'.dir.length e w') := now_st HS6.out rfl
      have HFW : Hid (F'.dir.length ≤ 64) := HS6.out.few.1
      have HCM' : Hid (Calm F') := HMV.out.1
      by_cases e4 : ok = 4
      · subst e4
        rw [HKK.out, if_pos rfl] at HEV6
        go_wp2_with fail
        refine (show Calls _ _ _ _ _ from HN6.out).mono ?_
        rintro e w7 ⟨P7, c7, rfl, hp7, hb7⟩
        have HS7 : Hid (St w w7 g X6 F' (i + 1)) := HS6.out.on hb7
        have HK7 : Hid (KR pprE w7 (.slice P7 F'.dir.length c7) (nowM F')) := hp7.kr
        have HE7 : Hid (EvR w.heap.size w7 (.slice none 0 0) []) := EvR.nil
        have HBW : Hid (w.heap.size ≤ w7.heap.size) := HS7.out.bel.size
        have HLN : Hid ((nowM F').length = F'.dir.length) := now_len F'
        have hiw := HIW.out
        clear hp7 hb7 HN6 HE6 HS6 y0
        go_wp2_with (first
          | (at_builtin; refine wpList_appX pprOk rfl _ _ rfl w.heap.size _ [] 0 rfl rfl HE7.out _ (nowM F') rfl HK7.out F'.dir.length (by rw [HLN.out]; simp) (by rw [HLN.out]; have := HFW.out; unfold maxLen; simp; omega) (by rw [HLN.out]; have := HFW.out; show _ * 32 ≤ _; simp; omega) HBW.out ?_; intro v8 w8 ho8 hg8 hv8; obtain ⟨P8, c8, hf8⟩ := own_form ho8; subst hf8; clear hv8)
          | go_in)
        have HS8 : Hid (St w w8 g X6 F' (i + 1)) := HS7.out.grow HE7.out hg8
        have HE8 : Hid (EvR w.heap.size w8 (.slice P8 F'.dir.length c8) (nowM F')) := by
          show World.ownsRow _ _ _ _ _ _ _
          rw [HLN.out]; exact ho8
        clear ho8 hg8
        go_roundw
        case rel => exact ⟨i + 1, F', X6, nowM F', HIN.out, rfl, HS8.out, HCM'.out, HEV6.out, by rw [HLN.out]; have := HFW.out; omega, HE8.out⟩
        case measure => have := HIN.out; simp [intOf]; omega
      · have n4 : (ok == 4) = false := by simpa using e4
        rw [HKK.out, if_neg e4] at HEV6
        go_wp2_with fail
        refine (show Calls _ _ _ _ _ from HN6.out).mono ?_
        rintro e w7 ⟨P7, c7, rfl, hp7, hb7⟩
        have HS7 : Hid (St w w7 g X6 F' (i + 1)) := HS6.out.on hb7
        have HE7 : Hid (EvR w.heap.size w7 (.slice PE E.length ce) E) := HE6.out.on hb7
        have HK7 : Hid (KR pprE w7 (.slice P7 F'.dir.length c7) (nowM F')) := hp7.kr
        have HBW : Hid (w.heap.size ≤ w7.heap.size) := HS7.out.bel.size
        have HLN : Hid (E.length + (nowM F').length = E.length + F'.dir.length ∧ E.length + F'.dir.length ≤ 134217728) := by
          have h1 := HEL.out
          have h2 := HFW.out
          have h3 := HL.out
          have h4 := HIN.out
          show _ ∧ _
          rw [now_len]
          omega
        have hiw := HIW.out
        clear hp7 hb7 HN6 HE6 HS6 y0 n4
        go_wp2_with (first
          | (at_builtin; refine wpList_appX pprOk rfl _ _ rfl w.heap.size _ E E.length rfl rfl HE7.out _ (nowM F') rfl HK7.out (E.length + F'.dir.length) HLN.out.1.symm (by rw [HLN.out.1]; have := HLN.out.2; unfold maxLen; omega) (by rw [HLN.out.1]; have := HLN.out.2; show _ * 32 ≤ _; omega) HBW.out ?_; intro v8 w8 ho8 hg8 hv8; obtain ⟨P8, c8, hf8⟩ := own_form ho8; subst hf8; clear hv8)
          | go_in)
        have HS8 : Hid (St w w8 g X6 F' (i + 1)) := HS7.out.grow HE7.out hg8
        have HE8 : Hid (EvR w.heap.size w8 (.slice P8 (E.length + F'.dir.length) c8) (E ++ nowM F')) := by
          show World.ownsRow _ _ _ _ _ _ _
          rw [List.length_append, HLN.out.1]; exact ho8
        clear ho8 hg8
        go_roundw
        case rel => exact ⟨i + 1, F', X6, E ++ nowM F', HIN.out, rfl, HS8.out, HCM'.out, HEV6.out, by rw [List.length_append, HLN.out.1]; have := HFW.out; have := HEL.out; omega, HE8.out⟩
        case measure => have := HIN.out; simp [intOf]; omega
    · have hq : i = len := by omega
      subst hq
      obtain ⟨sn, hsn⟩ : ∃ sn, F.sure.length = sn := ⟨_, rfl⟩
      have HSN : Hid (F.sure.length = sn) := hsn
      have HSF : Hid (sn ≤ 64) := by show _ ≤ _; rw [← hsn]; exact HST.out.few.2
      obtain ⟨sl, hsl⟩ : ∃ sl, safeM F = sl := ⟨_, rfl⟩
      have HSL : Hid (safeM F = sl) := hsl
      have HLS : Hid (sl.length = sn) := by show _ = _; rw [← hsl, safe_len, hsn]
      have hq := safe_stE HST.out hsn
      rw [hsl] at hq
      have HQ : Hid (Calls Try.prog 9 #[.pointer (some ⟨g, 0, none⟩)] wr fun e w' => ∃ P c, e = .returned (.slice P sn c) ∧ EvR wr.heap.size w' (.slice P sn c) sl ∧ Below wr.heap.size wr w') := hq
      clear hsn hsl hq hi hlt
      go_wp2_with fail
      refine (show Calls _ _ _ _ _ from HQ.out).mono ?_
      rintro e w3 ⟨P2, c2, rfl, hp2, hb3⟩
      have HS3 : Hid (St w w3 g X F i) := HST.out.on hb3
      have HE3 : Hid (EvR w.heap.size w3 (.slice PE E.length ce) E) := HER.out.on hb3
      have HP3 : Hid (PR w3 (.slice P2 sn c2) sl) := by
        have := own_zero hp2
        show World.ownsRow _ _ _ _ _ _ _
        exact this
      have HAP : Hid (∀ q, (Value.slice PE E.length ce).ownBlock = some q → (Value.slice P2 sn c2).ownBlock ≠ some q) := fun q hq hq2 => by
        have h1 := own_lt HER.out hq
        have h2 := (World.ownsRow.lt hp2 q hq2).1
        omega
      clear HQ hp2 hb3 HST HER
      go_wp2
      go_loopw [11, 6] (fun ki ev wk => ∃ k : Nat, k ≤ sn ∧ ki = .int .i64 (k : Int) ∧ St w wk g X F i ∧ EvR w.heap.size wk ev (E ++ sl.take k) ∧ PR wk (.slice P2 sn c2) sl ∧ ∀ q, ev.ownBlock = some q → (Value.slice P2 sn c2).ownBlock ≠ some q) (fun ki _ _ => sn - (intOf ki).toNat)
      case atStart => exact ⟨0, Nat.zero_le _, rfl, HS3.out, by rw [List.take_zero, List.append_nil]; exact HE3.out, HP3.out, HAP.out⟩
      case round =>
        obtain ⟨k, hk, rfl, hst, her, hpr, hap⟩ := hrel
        have HEN : Hid ((E ++ sl.take k).length = E.length + k) := by show _ = _; rw [List.length_append, List.length_take, HLS.out]; omega
        obtain ⟨PV, cv, hfv⟩ := own_form her
        rw [HEN.out] at hfv
        subst hfv
        have HST : Hid (St w wr g X F i) := hst
        have HER : Hid (EvR w.heap.size wr (.slice PV (E.length + k) cv) (E ++ sl.take k)) := her
        have HPR : Hid (PR wr (.slice P2 sn c2) sl) := hpr
        have HAQ : Hid (∀ q, (Value.slice PV (E.length + k) cv).ownBlock = some q → (Value.slice P2 sn c2).ownBlock ≠ some q) := hap
        clear hst her hpr hap
        by_cases hlt : k < sn
        · have hkl : k < sl.length := by rw [HLS.out]; exact hlt
          obtain ⟨G2, o2, k2, he2, hc2⟩ := HPR.out.kr.cell pprOk hkl
          injection he2 with h1 h3 h2
          subst h1
          obtain ⟨⟨A, B⟩, hAB⟩ : ∃ x, sl[k] = x := ⟨_, rfl⟩
          rw [hAB] at hc2
          have d0 : wr.cell? ⟨G2, o2 + k * 2, none⟩ = some (.string A) := hc2 0 _ rfl
          have d1 : wr.cell? ⟨G2, o2 + k * 2 + 1, none⟩ = some (.string B) := hc2 1 _ rfl
          have HTK : Hid ((E ++ sl.take k) ++ [(A, B)] = E ++ sl.take (k + 1)) := by
            show _ = _
            rw [List.take_add_one, List.getElem?_eq_getElem hkl, hAB, List.append_assoc]; rfl
          have hz0 : (0 : Int) ≤ (k : Int) := by omega
          have hz1 : (k : Int) < (sn : Int) := by omega
          have hkw : IntKind.i64.wrap ((k : Int) + 1) = (k : Int) + 1 := by have := HSF.out; rw [IntKind.wrap_i64] <;> omega
          have HLT : Hid (k < sn) := hlt
          have HWS : Hid (w.heap.size ≤ wr.heap.size) := HST.out.bel.size
          have HBD : Hid ((E ++ sl.take k).length + 1 ≤ 134217728) := by
            have h1 := HEL.out; have h2 := HL.out; have h3 := HSF.out
            show _ ≤ _
            rw [HEN.out]; omega
          clear hc2 h3 h2 hkl hAB hlt hk
          go_wp2_with (first
            | (at_builtin; refine wpList_oneX pprOk #[.string A, .string B] (A, B) rfl rfl _ _ rfl w.heap.size _ (E ++ sl.take k) (E.length + k) HEN.out.symm rfl (by have := HER.out; unfold EvR at this; rw [HEN.out] at this; exact this) rfl (by have := HBD.out; unfold maxLen; omega) (by have := HBD.out; show _ * 32 ≤ _; omega) HWS.out ?_; intro v8 w8 ho8 hg8 hv8; obtain ⟨P8, c8, hf8⟩ := own_form ho8; subst hf8)
            | go_in)
          have hba : Below wr.heap.size wr (wr.alloc (.cells #[.string A, .string B] 34)) := (Below.refl _ _).alloc (Nat.le_refl _) _
          have HS8 : Hid (St w w8 g X F i) := (HST.out.on hba).grow (HER.out.on hba) hg8
          have HE8 : Hid (EvR w.heap.size w8 (.slice P8 (E.length + k + 1) c8) (E ++ sl.take (k + 1))) := by
            show World.ownsRow _ _ _ _ _ _ _
            rw [← HTK.out, List.length_append, HEN.out]; exact ho8
          have HP8 : Hid (PR w8 (.slice (some ⟨G2, o2, none⟩) sn c2) sl) := own_to HPR.out (fun q hq => by
            have hlq := own_lt HPR.out hq
            refine (hg8.block q (by rw [World.size_alloc]; omega) (fun e => HAQ.out q e.symm hq)).trans (heap_alloc_old _ _ hlq))
          have HA8 : Hid (∀ q, (Value.slice P8 (E.length + k + 1) c8).ownBlock = some q → (Value.slice (some ⟨G2, o2, none⟩) sn c2).ownBlock ≠ some q) := fun q hq hq2 => by
            rcases hv8 with e | e
            · rw [e] at hq; exact HAQ.out q hq hq2
            · rw [e] at hq
              have hlq := own_lt HPR.out hq2
              injection hq with hq
              omega
          clear ho8 hg8 hv8 hba d0 d1
          go_roundw
          case rel => exact ⟨k + 1, HLT.out, rfl, HS8.out, HE8.out, HP8.out, HA8.out⟩
          case measure => have := HLT.out; simp [intOf]; omega
        · have hq : k = sn := by omega
          subst hq
          have HBD0 : Hid (∀ ne, E.length + k = ne → ne ≤ 134217728) := fun ne hh => by have h1 := HEL.out; have h2 := HL.out; have h3 := HSF.out; omega
          have HPK : Hid (Pks wr (Own g F X) (.slice PP p.length pc) p) := ⟨kr_under HP.out HPB.out HST.out.bel, fun hp b x n c e hs => by have := HPB.out hp b x n c e; have := HST.out.own b hs; omega⟩
          have HE2 : Hid (Ev F (E ++ sl)) := HEV.out.mono (fun e he => List.mem_append_left _ he)
          have HQ : Hid (Calls Try.prog 10 #[.pointer (some ⟨g, 0, none⟩), .int .i64 0, .slice PP p.length pc] wr fun e w' => CrashP w wr g X F (downM F p) i e w') := crash_st HST.out (by have := HL.out; omega) HCM.out.up (by have := HPL.out; omega) HPK.out
          have HTA : Hid (E ++ sl.take k = E ++ sl) := by show _ = _; rw [← HLS.out, List.take_length]
          rw [HTA.out] at HER HEN
          have HPW : Hid (∀ W, Below w.heap.size w W → KR pinE W (.slice PP p.length pc) p) := fun W hW => kr_under HP.out HPB.out hW
          clear hlt hk HA HO HPK HP HPB HAQ HEL HCM
          go_wp2_with fail
          refine (show Calls _ _ _ _ _ from HQ.out).mono ?_
          rintro e w4 ⟨rfl, ⟨X4, hst4⟩, hmd⟩
          have HS4 : Hid (St w w4 g X4 (downM F p) (i + 1)) := hst4
          have HE4 : Hid (EvR w.heap.size w4 (.slice PV (E.length + k) cv) (E ++ sl)) := HER.out.mod HST.out.fs.toFsC hmd
          have HP4 : Hid (PR w4 (.slice P2 k c2) sl) := HPR.out.mod HST.out.fs.toFsC hmd
          have HWAS : Hid (∀ y ∈ nowM (downM F p), (∃ e ∈ E ++ sl, e.1 = y.1) ∧ (∃ e ∈ E ++ sl, Pre y.2 e.2)) := fun y hy => down_was HST.out.fs.ok HE2.out p hy
          have HDS : Hid (pickM p 0 F.chg.length = 0 → (nowM (downM F p)).length = (safeM F).length ∧ ∀ (k : Nat) (x : ByteArray × ByteArray), (safeM F)[k]? = some x → ∃ v, (nowM (downM F p)).find? (fun y => decide (y.1 = x.1)) = some (x.1, v) ∧ Pre x.2 v) := fun h => down_safe HST.out.fs.ok p h
          rw [HSL.out] at HDS
          clear hst4 hmd HQ HST HER HPR HE2
          obtain ⟨nd, hnd⟩ : ∃ nd, (downM F p).dir.length = nd := ⟨_, rfl⟩
          have HND : Hid (nd ≤ 64) := by show _ ≤ _; rw [← hnd]; exact HS4.out.few.1
          have HLND : Hid ((nowM (downM F p)).length = nd) := by show _ = _; rw [now_len, hnd]
          have HQ : Hid (Calls Try.prog 8 #[.pointer (some ⟨g, 0, none⟩)] w4 fun e w' => NowP w4 (nowM (downM F p)) nd e w') := now_st HS4.out hnd
          have HBIG : Hid (∀ (j : Nat) (x : ByteArray × ByteArray), (nowM (downM F p))[j]? = some x → x.2.size ≤ 1073741824) := fun j x hx => HS4.out.big hx
          clear hnd
          generalize nowM (downM F p) = nl at *
          go_wp2_with fail
          refine (show Calls _ _ _ _ _ from HQ.out).mono ?_
          rintro e w5 ⟨P3, c3, rfl, hp5, hb5⟩
          have HB5 : Hid (Below w.heap.size w w5) := bel_to HS4.out.bel hb5 (Nat.le_refl _)
          have HN5 : Hid (PR w5 (.slice P3 nd c3) nl) := hp5
          have HE5 : Hid (EvR w.heap.size w5 (.slice PV (E.length + k) cv) (E ++ sl)) := HE4.out.on hb5
          have HP5 : Hid (PR w5 (.slice P2 k c2) sl) := HP4.out.on hb5
          clear HQ hp5 hb5 HS4 HE4 HP4
          obtain ⟨ne, hne⟩ : ∃ ne, E.length + k = ne := ⟨_, rfl⟩
          rw [hne] at HE5 HEN
          have HNE : Hid (ne ≤ 134217728) := HBD0.out ne hne
          rw [hne]
          clear hne
          generalize E ++ sl = E2 at *
          go_wp2
          obtain ⟨wz, hwz⟩ : ∃ wz : World, wz = wr := ⟨_, rfl⟩
          subst hwz
          go_loopw [13] (fun ki wk => ∃ j : Nat, j ≤ nd ∧ ki = .int .i64 (j : Int) ∧ Below w5.heap.size w5 wk) (fun ki _ => nd - (intOf ki).toNat)
          case atStart => exact ⟨0, Nat.zero_le _, rfl, Below.refl _ _⟩
          case round =>
            obtain ⟨j, hj, rfl, hbj⟩ := hrel
            have HBJ : Hid (Below w5.heap.size w5 wr) := hbj
            by_cases hlt : j < nd
            · have hjl : j < nl.length := by rw [HLND.out]; exact hlt
              obtain ⟨G3, o3, k3, he3, hc3⟩ := (HN5.out.on hbj).kr.cell pprOk hjl
              injection he3 with h1 h3 h2
              subst h1
              obtain ⟨⟨A, V⟩, hAV⟩ : ∃ x, nl[j] = x := ⟨_, rfl⟩
              rw [hAV] at hc3
              have hin : (A, V) ∈ nl := by rw [← hAV]; exact List.getElem_mem hjl
              have hbg := HBIG.out j _ (List.getElem?_eq_getElem hjl)
              rw [hAV] at hbg
              have d0 : ∀ W, Below w5.heap.size w5 W → W.cell? ⟨G3, o3 + j * 2, none⟩ = some (.string A) := fun W hW => by
                have := cell_on (hc3 0 _ rfl : wr.cell? ⟨G3, o3 + j * 2, none⟩ = some (.string A)) (Below.refl wr.heap.size wr)
                obtain ⟨G9, o9, k9, he9, hc9⟩ := (HN5.out.on hW).kr.cell pprOk hjl
                injection he9 with h9
                injection h9 with h9
                injection h9 with h9 h10
                subst h9
                subst h10
                rw [hAV] at hc9
                exact hc9 0 _ rfl
              have d1 : ∀ W, Below w5.heap.size w5 W → W.cell? ⟨G3, o3 + j * 2 + 1, none⟩ = some (.string V) := fun W hW => by
                obtain ⟨G9, o9, k9, he9, hc9⟩ := (HN5.out.on hW).kr.cell pprOk hjl
                injection he9 with h9
                injection h9 with h9
                injection h9 with h9 h10
                subst h9
                subst h10
                rw [hAV] at hc9
                exact hc9 1 _ rfl
              have HD0 : Hid (∀ W, Below w5.heap.size w5 W → W.cell? ⟨G3, o3 + j * 2, none⟩ = some (.string A)) := d0
              have HD1 : Hid (∀ W, Below w5.heap.size w5 W → W.cell? ⟨G3, o3 + j * 2 + 1, none⟩ = some (.string V)) := d1
              obtain ⟨hw1, hw2⟩ := HWAS.out _ hin
              have HA1 : Hid (anyT (nmB A) E2 E2.length = true) := anyT_all (by obtain ⟨e, he, h⟩ := hw1; exact ⟨e, he, decide_eq_true h⟩)
              have HA2 : Hid (anyT (ws2 V) E2 E2.length = true) := anyT_all (by obtain ⟨e, he, h⟩ := hw2; exact ⟨e, he, preB_of h⟩)
              have hz0 : (0 : Int) ≤ (j : Int) := by omega
              have hz1 : (j : Int) < (nd : Int) := by omega
              have hjw : IntKind.i64.wrap ((j : Int) + 1) = (j : Int) + 1 := by have := HND.out; rw [IntKind.wrap_i64] <;> omega
              have HJL : Hid (j + 1 ≤ nd) := hlt
              obtain ⟨vs, hvs⟩ : ∃ vs, V.size = vs := ⟨_, rfl⟩
              have HVB : Hid (vs ≤ 1073741824) := by show _ ≤ _; rw [← hvs]; exact hbg
              clear d0 d1 hc3 hin hbg hw1 hw2 hjl h3 h2 hAV hj hlt hbj
              obtain ⟨wy, hwy⟩ : ∃ wy : World, wy = wr := ⟨_, rfl⟩
              subst hwy
              go_wp2
              go_loopw [14, 15, 16] (fun nb wb kc wk => ∃ (m : Nat) (b1 b2 : Bool), m ≤ ne ∧ nb = .bool b1 ∧ wb = .bool b2 ∧ kc = .int .i64 (m : Int) ∧ b1 = anyT (nmB A) E2 m ∧ b2 = anyT (ws2 V) E2 m ∧ Below w5.heap.size w5 wk) (fun _ _ kc _ => ne - (intOf kc).toNat)
              case atStart => exact ⟨0, false, false, Nat.zero_le _, rfl, rfl, rfl, (anyT_zero _ _).symm, (anyT_zero _ _).symm, HBJ.out⟩
              case round =>
                obtain ⟨m, b1, b2, hm, rfl, rfl, rfl, hb1, hb2, hbm⟩ := hrel
                have HBM : Hid (Below w5.heap.size w5 wr) := hbm
                by_cases hmt : m < ne
                · have hml : m < E2.length := by rw [HEN.out]; exact hmt
                  have f0 := HD0.out _ hbm
                  have f1 := HD1.out _ hbm
                  have hek : KR pprE wr (.slice PV E2.length cv) E2 := by
                    have := (HE5.out.on hbm).kr
                    rw [← HEN.out] at this
                    exact this
                  obtain ⟨G4, o4, k4, he4, hc4⟩ := hek.cell pprOk hml
                  injection he4 with h1 h3 h2
                  subst h1
                  obtain ⟨⟨U1, U2⟩, hU⟩ : ∃ x, E2[m] = x := ⟨_, rfl⟩
                  have HX1 : Hid (anyT (nmB A) E2 (m + 1) = (b1 || decide (U1 = A))) := by
                    show _ = _
                    rw [anyT_succ _ _ _ hml, ← hb1, hU]; rfl
                  have HX2 : Hid (anyT (ws2 V) E2 (m + 1) = (b2 || preB V U2)) := by
                    show _ = _
                    rw [anyT_succ _ _ _ hml, ← hb2, hU]; rfl
                  rw [hU] at hc4
                  have g0 : wr.cell? ⟨G4, o4 + m * 2, none⟩ = some (.string U1) := hc4 0 _ rfl
                  have g1 : wr.cell? ⟨G4, o4 + m * 2 + 1, none⟩ = some (.string U2) := hc4 1 _ rfl
                  have hz2 : (0 : Int) ≤ (m : Int) := by omega
                  have hz3 : (m : Int) < (ne : Int) := by omega
                  have hmw : IntKind.i64.wrap ((m : Int) + 1) = (m : Int) + 1 := by have := HNE.out; rw [IntKind.wrap_i64] <;> omega
                  have HMT : Hid (m + 1 ≤ ne) := hmt
                  obtain ⟨us, hus⟩ : ∃ us, U2.size = us := ⟨_, rfl⟩
                  clear hb1 hb2 hbm hc4 h3 h2 hml hek hm hU hmt
                  have HG1 : Hid (∀ n, (wr.drewN n).cell? ⟨G4, o4 + m * 2 + 1, none⟩ = some (.string U2)) := fun n => g1
                  cases b1 with
                  | true =>
                    have HY1 : Hid (true = anyT (nmB A) E2 (m + 1)) := by show _ = _; rw [HX1.out]; rfl
                    go_upto_region 31 with fail
                    go_quiet (fail)
                    have HBQ : Hid (Below w5.heap.size w5 (wr.drewN nq)) := below_dn HBM.out nq
                    clear f0 f1 g0 g1
                    have f1 := HD1.out _ HBQ.out
                    have g1 : (wr.drewN nq).cell? ⟨G4, o4 + m * 2 + 1, none⟩ = some (.string U2) := HG1.out nq
                    clear HG1
                    generalize wr.drewN nq = Wq at *
                    cases b2 with
                    | true =>
                      have HY2 : Hid (true = anyT (ws2 V) E2 (m + 1)) := by show _ = _; rw [HX2.out]; rfl
                      go_wp2
                      go_roundw
                      case rel => exact ⟨m + 1, _, _, HMT.out, rfl, rfl, rfl, HY1.out, HY2.out, HBQ.out⟩
                      case measure => have := HMT.out; simp [intOf]; omega
                    | false =>
                      by_cases hge : vs ≤ us
                      · have s1 : decide ((vs : Int) ≤ (us : Int)) = true := decide_eq_true (by omega)
                        have s2 : decide (vs ≤ us) = true := decide_eq_true hge
                        have s3 : (vs : Int) ≤ (us : Int) := by omega
                        have s4 : (0 : Int) ≤ (vs : Int) := by omega
                        by_cases hpe : U2.extract 0 vs = V
                        · have q2 : ((U2.extract 0 vs).toList == V.toList) = true := str_same (by rw [hpe])
                          have HY2 : Hid (true = anyT (ws2 V) E2 (m + 1)) := by show _ = _; rw [HX2.out]; unfold preB; rw [hvs, hus, s2, decide_eq_true hpe]; rfl
                          clear hpe
                          go_wp2
                          go_roundw
                          case rel => exact ⟨m + 1, _, _, HMT.out, rfl, rfl, rfl, HY1.out, HY2.out, HBQ.out⟩
                          case measure => have := HMT.out; simp [intOf]; omega
                        · have q2 : ((U2.extract 0 vs).toList == V.toList) = false := str_other (ba_ne hpe)
                          have HY2 : Hid (false = anyT (ws2 V) E2 (m + 1)) := by show _ = _; rw [HX2.out]; unfold preB; rw [hvs, hus, s2, decide_eq_false hpe]; rfl
                          clear hpe
                          go_wp2
                          go_roundw
                          case rel => exact ⟨m + 1, _, _, HMT.out, rfl, rfl, rfl, HY1.out, HY2.out, HBQ.out⟩
                          case measure => have := HMT.out; simp [intOf]; omega
                      · have s1 : decide ((vs : Int) ≤ (us : Int)) = false := decide_eq_false (by omega)
                        have s2 : decide (vs ≤ us) = false := decide_eq_false hge
                        have s3 : ¬ (vs : Int) ≤ (us : Int) := by omega
                        have HY2 : Hid (false = anyT (ws2 V) E2 (m + 1)) := by show _ = _; rw [HX2.out]; unfold preB; rw [hvs, hus, s2]; rfl
                        clear hge
                        go_wp2
                        go_roundw
                        case rel => exact ⟨m + 1, _, _, HMT.out, rfl, rfl, rfl, HY1.out, HY2.out, HBQ.out⟩
                        case measure => have := HMT.out; simp [intOf]; omega
                  | false =>
                    by_cases hna : U1 = A
                    · have q1 : (U1.toList == A.toList) = true := str_same (by rw [hna])
                      have HY1 : Hid (true = anyT (nmB A) E2 (m + 1)) := by show _ = _; rw [HX1.out, decide_eq_true hna]; rfl
                      clear hna
                      go_upto_region 31 with fail
                      go_quiet (fail)
                      have HBQ : Hid (Below w5.heap.size w5 (wr.drewN nq)) := below_dn HBM.out nq
                      clear f0 f1 g0 g1
                      have f1 := HD1.out _ HBQ.out
                      have g1 : (wr.drewN nq).cell? ⟨G4, o4 + m * 2 + 1, none⟩ = some (.string U2) := HG1.out nq
                      clear HG1
                      generalize wr.drewN nq = Wq at *
                      cases b2 with
                      | true =>
                        have HY2 : Hid (true = anyT (ws2 V) E2 (m + 1)) := by show _ = _; rw [HX2.out]; rfl
                        go_wp2
                        go_roundw
                        case rel => exact ⟨m + 1, _, _, HMT.out, rfl, rfl, rfl, HY1.out, HY2.out, HBQ.out⟩
                        case measure => have := HMT.out; simp [intOf]; omega
                      | false =>
                        by_cases hge : vs ≤ us
                        · have s1 : decide ((vs : Int) ≤ (us : Int)) = true := decide_eq_true (by omega)
                          have s2 : decide (vs ≤ us) = true := decide_eq_true hge
                          have s3 : (vs : Int) ≤ (us : Int) := by omega
                          have s4 : (0 : Int) ≤ (vs : Int) := by omega
                          by_cases hpe : U2.extract 0 vs = V
                          · have q2 : ((U2.extract 0 vs).toList == V.toList) = true := str_same (by rw [hpe])
                            have HY2 : Hid (true = anyT (ws2 V) E2 (m + 1)) := by show _ = _; rw [HX2.out]; unfold preB; rw [hvs, hus, s2, decide_eq_true hpe]; rfl
                            clear hpe
                            go_wp2
                            go_roundw
                            case rel => exact ⟨m + 1, _, _, HMT.out, rfl, rfl, rfl, HY1.out, HY2.out, HBQ.out⟩
                            case measure => have := HMT.out; simp [intOf]; omega
                          · have q2 : ((U2.extract 0 vs).toList == V.toList) = false := str_other (ba_ne hpe)
                            have HY2 : Hid (false = anyT (ws2 V) E2 (m + 1)) := by show _ = _; rw [HX2.out]; unfold preB; rw [hvs, hus, s2, decide_eq_false hpe]; rfl
                            clear hpe
                            go_wp2
                            go_roundw
                            case rel => exact ⟨m + 1, _, _, HMT.out, rfl, rfl, rfl, HY1.out, HY2.out, HBQ.out⟩
                            case measure => have := HMT.out; simp [intOf]; omega
                        · have s1 : decide ((vs : Int) ≤ (us : Int)) = false := decide_eq_false (by omega)
                          have s2 : decide (vs ≤ us) = false := decide_eq_false hge
                          have s3 : ¬ (vs : Int) ≤ (us : Int) := by omega
                          have HY2 : Hid (false = anyT (ws2 V) E2 (m + 1)) := by show _ = _; rw [HX2.out]; unfold preB; rw [hvs, hus, s2]; rfl
                          clear hge
                          go_wp2
                          go_roundw
                          case rel => exact ⟨m + 1, _, _, HMT.out, rfl, rfl, rfl, HY1.out, HY2.out, HBQ.out⟩
                          case measure => have := HMT.out; simp [intOf]; omega
                    · have q1 : (U1.toList == A.toList) = false := str_other (ba_ne hna)
                      have HY1 : Hid (false = anyT (nmB A) E2 (m + 1)) := by show _ = _; rw [HX1.out, decide_eq_false hna]; rfl
                      clear hna
                      go_upto_region 31 with fail
                      go_quiet (fail)
                      have HBQ : Hid (Below w5.heap.size w5 (wr.drewN nq)) := below_dn HBM.out nq
                      clear f0 f1 g0 g1
                      have f1 := HD1.out _ HBQ.out
                      have g1 : (wr.drewN nq).cell? ⟨G4, o4 + m * 2 + 1, none⟩ = some (.string U2) := HG1.out nq
                      clear HG1
                      generalize wr.drewN nq = Wq at *
                      cases b2 with
                      | true =>
                        have HY2 : Hid (true = anyT (ws2 V) E2 (m + 1)) := by show _ = _; rw [HX2.out]; rfl
                        go_wp2
                        go_roundw
                        case rel => exact ⟨m + 1, _, _, HMT.out, rfl, rfl, rfl, HY1.out, HY2.out, HBQ.out⟩
                        case measure => have := HMT.out; simp [intOf]; omega
                      | false =>
                        by_cases hge : vs ≤ us
                        · have s1 : decide ((vs : Int) ≤ (us : Int)) = true := decide_eq_true (by omega)
                          have s2 : decide (vs ≤ us) = true := decide_eq_true hge
                          have s3 : (vs : Int) ≤ (us : Int) := by omega
                          have s4 : (0 : Int) ≤ (vs : Int) := by omega
                          by_cases hpe : U2.extract 0 vs = V
                          · have q2 : ((U2.extract 0 vs).toList == V.toList) = true := str_same (by rw [hpe])
                            have HY2 : Hid (true = anyT (ws2 V) E2 (m + 1)) := by show _ = _; rw [HX2.out]; unfold preB; rw [hvs, hus, s2, decide_eq_true hpe]; rfl
                            clear hpe
                            go_wp2
                            go_roundw
                            case rel => exact ⟨m + 1, _, _, HMT.out, rfl, rfl, rfl, HY1.out, HY2.out, HBQ.out⟩
                            case measure => have := HMT.out; simp [intOf]; omega
                          · have q2 : ((U2.extract 0 vs).toList == V.toList) = false := str_other (ba_ne hpe)
                            have HY2 : Hid (false = anyT (ws2 V) E2 (m + 1)) := by show _ = _; rw [HX2.out]; unfold preB; rw [hvs, hus, s2, decide_eq_false hpe]; rfl
                            clear hpe
                            go_wp2
                            go_roundw
                            case rel => exact ⟨m + 1, _, _, HMT.out, rfl, rfl, rfl, HY1.out, HY2.out, HBQ.out⟩
                            case measure => have := HMT.out; simp [intOf]; omega
                        · have s1 : decide ((vs : Int) ≤ (us : Int)) = false := decide_eq_false (by omega)
                          have s2 : decide (vs ≤ us) = false := decide_eq_false hge
                          have s3 : ¬ (vs : Int) ≤ (us : Int) := by omega
                          have HY2 : Hid (false = anyT (ws2 V) E2 (m + 1)) := by show _ = _; rw [HX2.out]; unfold preB; rw [hvs, hus, s2]; rfl
                          clear hge
                          go_wp2
                          go_roundw
                          case rel => exact ⟨m + 1, _, _, HMT.out, rfl, rfl, rfl, HY1.out, HY2.out, HBQ.out⟩
                          case measure => have := HMT.out; simp [intOf]; omega
                · have hq : m = ne := by omega
                  subst hq
                  have h1 : b1 = true := by rw [hb1, ← HEN.out]; exact HA1.out
                  have h2 : b2 = true := by rw [hb2, ← HEN.out]; exact HA2.out
                  subst h1
                  subst h2
                  clear hb1 hb2 hm hmt hbm
                  go_wp2
                  go_roundw
                  case rel => exact ⟨j + 1, HJL.out, rfl, HBM.out⟩
                  case measure => have := HJL.out; simp [intOf]; omega
            · have hq : j = nd := by omega
              subst hq
              clear hlt hj hbj HWAS HE5 HEN HNE HBIG
              obtain ⟨wy, hwy⟩ : ∃ wy : World, wy = wr := ⟨_, rfl⟩
              subst hwy
              go_wp2
              go_loopw [18, 10] (fun ki cb wk => ∃ (m : Nat) (b : Bool), m ≤ p.length ∧ ki = .int .i64 (m : Int) ∧ cb = .bool b ∧ b = chB p m ∧ Below w5.heap.size w5 wk) (fun ki _ _ => p.length - (intOf ki).toNat)
              case atStart => exact ⟨0, false, Nat.zero_le _, rfl, rfl, (chB_zero p).symm, HBJ.out⟩
              case round =>
                obtain ⟨m, b, hm, rfl, rfl, hb, hbm⟩ := hrel
                have HBM : Hid (Below w5.heap.size w5 wr) := hbm
                by_cases hmt : m < p.length
                · obtain ⟨G5, o5, k5, he5, hc5⟩ := (HPW.out wr (HB5.out.trans (hbm.mono HB5.out.size))).cell pinOk hmt
                  injection he5 with h1 h3 h2
                  subst h1
                  have g0 : wr.cell? ⟨G5, o5 + m, none⟩ = some (.int .i64 p[m]) := by
                    have := hc5 0 _ rfl
                    simpa [pinE] using this
                  obtain ⟨x, hx⟩ : ∃ x, p[m] = x := ⟨_, rfl⟩
                  rw [hx] at g0
                  have HC1 : Hid (m = 0 → chB p (m + 1) = decide (0 < x)) := fun h => by subst h; rw [← hx]; exact chB_one hmt
                  have HCM : Hid (m ≠ 0 → chB p (m + 1) = b) := fun h => by rw [chB_more (by omega), hb]
                  have HB0 : Hid (b = true → m ≠ 0) := fun h1 h2 => by rw [h1, h2, chB_zero] at hb; cases hb
                  have hz2 : (0 : Int) ≤ (m : Int) := by omega
                  have hz3 : (m : Int) < (p.length : Int) := by omega
                  have hmw : IntKind.i64.wrap ((m : Int) + 1) = (m : Int) + 1 := by have := HPL.out; rw [IntKind.wrap_i64] <;> omega
                  have HMT : Hid (m + 1 ≤ p.length) := hmt
                  clear hc5 h3 h2 hx hb hbm hm hmt
                  cases b with
                  | true =>
                    have HY : Hid (true = chB p (m + 1)) := (HCM.out (HB0.out rfl)).symm
                    go_wp2
                    go_roundw
                    case rel => exact ⟨_ + 1, _, HMT.out, rfl, rfl, HY.out, HBM.out⟩
                    case measure => have := HMT.out; simp [intOf]; omega
                  | false =>
                    by_cases hm0 : m = 0
                    · subst hm0
                      have g00 : wr.cell? ⟨G5, o5, none⟩ = some (.int .i64 x) := by simpa using g0
                      have hz30 : (0 : Int) < (p.length : Int) := by omega
                      have hw01 : IntKind.i64.wrap 1 = 1 := by rw [IntKind.wrap_i64] <;> omega
                      have hw02 : IntKind.i64.wrap (0 + 1) = 1 := by rw [IntKind.wrap_i64] <;> omega
                      clear g0 hz2 hz3 hmw
                      by_cases hx0 : 0 < x
                      · have s1 : decide ((0 : Int) < x) = true := decide_eq_true hx0
                        have HY : Hid (true = chB p (0 + 1)) := by show _ = _; rw [HC1.out rfl, s1]
                        go_wp2
                        go_roundw
                        case rel => exact ⟨_ + 1, _, HMT.out, rfl, rfl, HY.out, HBM.out⟩
                        case measure => have := HMT.out; simp [intOf]; omega
                      · have s1 : decide ((0 : Int) < x) = false := decide_eq_false hx0
                        have HY : Hid (false = chB p (0 + 1)) := by show _ = _; rw [HC1.out rfl, s1]
                        go_wp2
                        go_roundw
                        case rel => exact ⟨_ + 1, _, HMT.out, rfl, rfl, HY.out, HBM.out⟩
                        case measure => have := HMT.out; simp [intOf]; omega
                    · have n0 : ((m : Int) == 0) = false := by rw [beq_eq_false_iff_ne]; omega
                      have HY : Hid (false = chB p (m + 1)) := (HCM.out hm0).symm
                      go_wp2
                      go_roundw
                      case rel => exact ⟨_ + 1, _, HMT.out, rfl, rfl, HY.out, HBM.out⟩
                      case measure => have := HMT.out; simp [intOf]; omega
                · have hq : m = p.length := by omega
                  subst hq
                  have HBW : Hid (Below w.heap.size w wr) := HB5.out.trans (hbm.mono HB5.out.size)
                  clear hm hmt
                  cases b with
                  | true =>
                    clear hb hbm
                    go_wp2
                    go_returns
                    exact ⟨rfl, HBW.out⟩
                  | false =>
                    have hds := HDS.out (chB_none hb.symm _)
                    have HNK : Hid (j = k) := by show _ = _; rw [← HLND.out, hds.1, HLS.out]
                    have HFD : Hid (∀ (k : Nat) (x : ByteArray × ByteArray), sl[k]? = some x → ∃ v, nl.find? (fun y => decide (y.1 = x.1)) = some (x.1, v) ∧ Pre x.2 v) := hds.2
                    clear hb hbm hds HDS
                    obtain ⟨wx, hwx⟩ : ∃ wx : World, wx = wr := ⟨_, rfl⟩
                    subst hwx
                    go_wp2
                    go_loopw [19] (fun ki wk => ∃ m : Nat, m ≤ k ∧ ki = .int .i64 (m : Int) ∧ Below w5.heap.size w5 wk) (fun ki _ => k - (intOf ki).toNat)
                    case atStart => exact ⟨0, Nat.zero_le _, rfl, HBM.out⟩
                    case round =>
                      obtain ⟨m, hm, rfl, hbm⟩ := hrel
                      have HBM : Hid (Below w5.heap.size w5 wr) := hbm
                      by_cases hmt : m < k
                      · have hml : m < sl.length := by rw [HLS.out]; exact hmt
                        obtain ⟨G6, o6, k6, he6, hc6⟩ := (HP5.out.on hbm).kr.cell pprOk hml
                        injection he6 with h1 h3 h2
                        subst h1
                        obtain ⟨⟨A, B⟩, hAB⟩ : ∃ x, sl[m] = x := ⟨_, rfl⟩
                        rw [hAB] at hc6
                        obtain ⟨v, hv1, hv2⟩ := HFD.out m (A, B) (by rw [List.getElem?_eq_getElem hml, hAB])
                        have g0 : wr.cell? ⟨G6, o6 + m * 2, none⟩ = some (.string A) := hc6 0 _ rfl
                        have g1 : wr.cell? ⟨G6, o6 + m * 2 + 1, none⟩ = some (.string B) := hc6 1 _ rfl
                        have HQ : Hid (Calls Try.prog 11 #[.slice P3 j c3, .string A] wr fun e w' => e = .returned (.tuple #[.string v, .bool true]) ∧ w' = wr) := find_yes (.slice P3 j c3) nl A A v hv1 (by rw [HLND.out]; have := HND.out; omega) wr (HN5.out.on hbm).kr
                        obtain ⟨bs, hbs⟩ : ∃ bs, B.size = bs := ⟨_, rfl⟩
                        obtain ⟨vs, hvs⟩ : ∃ vs, v.size = vs := ⟨_, rfl⟩
                        have hbv : bs ≤ vs := by rw [← hbs, ← hvs]; exact hv2.1
                        have q1 : ((v.extract 0 bs).toList == B.toList) = true := str_same (by rw [← hbs]; rw [hv2.2])
                        have s1 : decide ((vs : Int) < (bs : Int)) = false := decide_eq_false (by omega)
                        have s2 : decide (vs < bs) = false := decide_eq_false (by omega)
                        have s3 : (bs : Int) ≤ (vs : Int) := by omega
                        have s4 : (0 : Int) ≤ (bs : Int) := by omega
                        have hz2 : (0 : Int) ≤ (m : Int) := by omega
                        have hz3 : (m : Int) < (k : Int) := by omega
                        have hmw : IntKind.i64.wrap ((m : Int) + 1) = (m : Int) + 1 := by have := HSF.out; rw [IntKind.wrap_i64] <;> omega
                        have HMT : Hid (m + 1 ≤ k) := hmt
                        clear hv1 hv2 hc6 hml h3 h2 hAB hm hmt hbm
                        go_wp2_with fail
                        refine (show Calls _ _ _ _ _ from HQ.out).mono ?_
                        rintro e wf ⟨rfl, hwf⟩
                        subst hwf
                        clear HQ
                        go_upto_region 45 with fail
                        go_quiet (fail)
                        have HBQ : Hid (Below w5.heap.size w5 (wf.drewN nq)) := below_dn HBM.out nq
                        clear g0 g1
                        generalize wf.drewN nq = Wq at *
                        go_wp2
                        go_roundw
                        case rel => exact ⟨m + 1, HMT.out, rfl, HBQ.out⟩
                        case measure => have := HMT.out; simp [intOf]; omega
                      · have hq : m = k := by omega
                        subst hq
                        have HBW : Hid (Below w.heap.size w wr) := HB5.out.trans (hbm.mono HB5.out.size)
                        have hjm := HNK.out
                        subst hjm
                        clear hm hmt hbm
                        go_wp2
                        go_returns
                        exact ⟨rfl, HBW.out⟩
end Go.Proofs.Ytencjopnbmbhkaa
