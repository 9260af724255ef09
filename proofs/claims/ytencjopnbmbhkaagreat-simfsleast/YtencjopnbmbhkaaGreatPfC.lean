import Derived.Test.YtencjopnbmbhkaaGreatMD
namespace Go.Proofs.YtencjopnbmbhkaaGreat
open Go.RowKit Go.Maps
set_option linter.unusedVariables false
set_option linter.unusedSimpArgs false
set_option maxHeartbeats 1000000 in
theorem check1_any (s : ByteArray) (hs : s.size ≤ 140737488355328) (w : World) : Calls Tryz.prog 90 #[.string s] w fun e w' => e = .returned (.bool (!namedM s)) ∧ w' = w := by
  have HI : Hid _ := isName_any s hs w
  go_enter Tryz.func90, Tryz.ntmps90
  go_wp2_with fail
  refine (show Calls _ _ _ _ _ from HI.out).mono ?_
  rintro e w1 ⟨rfl, rfl⟩
  go_wp2
  go_ret
  exact ⟨rfl, rfl⟩
set_option maxHeartbeats 1000000 in
theorem indexS_any (v : Value) (l : List ByteArray) (hl : l.length ≤ 1048576) (hs : ∀ s ∈ l, s.size ≤ 140737488355328) (w : World) (h : KR psE w v l) :
    Calls Tryz.prog 109 #[v, .func (.func 90) #[] #[]] w fun e w' => w' = w ∧ ∃ z : Int, e = .returned (.int .i64 z) ∧ (decide (0 ≤ z) = !l.all namedM) := by
  obtain ⟨P, c, rfl⟩ := h.form
  have H : Hid (KR psE w (.slice P l.length c) l) := h
  have HS : Hid (∀ s ∈ l, s.size ≤ 140737488355328) := hs
  clear h hs
  go_enter Tryz.func109, Tryz.ntmps109
  go_wp2
  go_loopw [8] (fun ci wr => wr = w ∧ ∃ i : Nat, i ≤ l.length ∧ ci = .int .i64 (i : Int) ∧ (l.take i).all namedM = true) (fun ci _ => l.length - (intOf ci).toNat)
  case atStart => exact ⟨rfl, 0, by omega, rfl, rfl⟩
  case round =>
    obtain ⟨rfl, i, hi, rfl, hall⟩ := hrel
    by_cases hlt : i < l.length
    · obtain ⟨g, o, c', he, hc⟩ := H.out.cell psOk hlt
      injection he with he1 _ he2
      subst he1
      have c0 : wr.cell? ⟨g, o + i * 1, none⟩ = some (.string l[i]) := hc 0 _ rfl
      rw [Nat.mul_one] at c0
      have hz0 : (0 : Int) ≤ (i : Int) := by omega
      have hz1 : (i : Int) < (l.length : Int) := by omega
      have hiw : IntKind.i64.wrap ((i : Int) + 1) = (i : Int) + 1 := by rw [IntKind.wrap_i64] <;> omega
      have HTK : Hid (∀ b, namedM l[i] = b → (l.take (i + 1)).all namedM = b) := fun b hb => by
        rw [List.take_add_one, List.getElem?_eq_getElem hlt, List.all_append, hall]; simp [hb]
      have HBAD : Hid (namedM l[i] = false → l.all namedM = false) := fun hb => by
        rw [List.all_eq_false]; exact ⟨l[i], List.getElem_mem hlt, by simp [hb]⟩
      obtain ⟨b, hb⟩ : ∃ b, namedM l[i] = b := ⟨_, rfl⟩
      have HC : Hid _ := check1_any l[i] (HS.out _ (List.getElem_mem hlt)) wr
      rw [hb] at HC
      have HB : Hid (namedM l[i] = b) := hb
      generalize l[i] = Y at c0 HC
      clear hc he2 hall hb
      go_wp2_with fail
      refine (show Calls _ _ _ _ _ from HC.out).mono ?_
      rintro e w1 ⟨rfl, rfl⟩
      cases b with
      | true =>
        go_wp2
        go_roundw
        case rel => exact ⟨trivial, i + 1, hlt, rfl, HTK.out _ HB.out⟩
        case measure => simp [intOf]; omega
      | false =>
        go_wp2
        go_returns
        exact ⟨rfl, (i : Int), rfl, by rw [HBAD.out HB.out]; simp⟩
    · have he : i = l.length := by omega
      subst he
      rw [List.take_length] at hall
      have HA : Hid (l.all namedM = true) := hall
      clear hall
      go_wp2
      go_returns
      exact ⟨rfl, -1, rfl, by rw [HA.out]; rfl⟩
set_option maxHeartbeats 1000000 in
theorem contS_any (v : Value) (l : List ByteArray) (hl : l.length ≤ 1048576) (hs : ∀ s ∈ l, s.size ≤ 140737488355328) (w : World) (h : KR psE w v l) :
    Calls Tryz.prog 89 #[v, .func (.func 90) #[] #[]] w fun e w' => e = .returned (.bool (!l.all namedM)) ∧ w' = w := by
  have HI : Hid _ := indexS_any v l hl hs w h
  obtain ⟨P, c, rfl⟩ := h.form
  clear h
  go_enter Tryz.func89, Tryz.ntmps89
  go_wp2_with fail
  refine (show Calls _ _ _ _ _ from HI.out).mono ?_
  rintro e w1 ⟨rfl, z, rfl, hz⟩
  have HZ : Hid (decide (0 ≤ z) = !l.all namedM) := hz
  clear hz
  go_wp2
  go_returns
  refine ⟨?_, rfl⟩
  rw [← HZ.out]; rfl
/-- check's answer. -/
def chkM (F : Fs) (l : List ByteArray) : Int := if F.down then 203 else if l.all namedM then 0 else 202
set_option maxHeartbeats 1000000 in
theorem check_any (g : Nat) (X : Gh) (F : Fs) (v : Value) (l : List ByteArray) (hl : l.length ≤ 1048576) (hs : ∀ s ∈ l, s.size ≤ 140737488355328) (w : World) (h : FsP w g X F) (hv : KR psE w v l) :
    Calls Tryz.prog 48 #[ptr (some g), v] w fun e w' => e = .returned (.int .i64 (chkM F l)) ∧ w' = w := by
  obtain ⟨c0, _⟩ := h.cells
  have HC : Hid _ := contS_any v l hl hs w hv
  obtain ⟨P, c, rfl⟩ := hv.form
  clear h hv
  unfold ptr
  obtain ⟨dn, hdn⟩ : ∃ dn, F.down = dn := ⟨_, rfl⟩
  have HCK : Hid (chkM F l = if dn then 203 else if l.all namedM then 0 else 202) := by show _ = _; unfold chkM; rw [hdn]
  rw [hdn] at c0
  clear hdn
  obtain ⟨al, hal⟩ : ∃ al, l.all namedM = al := ⟨_, rfl⟩
  rw [hal] at HC HCK
  clear hal
  cases dn with
  | true =>
    go_enter Tryz.func48, Tryz.ntmps48
    go_wp2
    go_returns
    exact ⟨by rw [HCK.out]; rfl, rfl⟩
  | false =>
    go_enter Tryz.func48, Tryz.ntmps48
    go_wp2_with fail
    refine (show Calls _ _ _ _ _ from HC.out).mono ?_
    rintro e w1 ⟨rfl, rfl⟩
    cases al with
    | true =>
      go_wp2
      go_returns
      exact ⟨by rw [HCK.out]; rfl, rfl⟩
    | false =>
      go_wp2
      go_returns
      exact ⟨by rw [HCK.out]; rfl, rfl⟩
end Go.Proofs.YtencjopnbmbhkaaGreat
