import Derived.Test.YtlheilkofibogaaGreatQBB
namespace Go.Proofs.YtlheilkofibogaaGreat
open Go.RowKit Go.Maps
set_option linter.unusedVariables false
def sA : ByteArray := ⟨#[97]⟩
def wk1 : Fs := (createM newM sA).1
def wk2 : Fs := (appendM wk1 sA ⟨#[120, 121]⟩).1
def wk3 : Fs := (syncM wk2 sA).1
def wk4 : Fs := (syncDirM wk3).1
def wk5 : Fs := (appendM wk4 sA ⟨#[122]⟩).1
def wk6 : Fs := (crashM wk5 0 []).1
def wk7 : Fs := (startM wk6).1
theorem wkA : (createM newM sA).2 = 0 := by kernel_rfl
theorem wkB : (appendM wk1 sA ⟨#[120, 121]⟩).2 = 0 := by kernel_rfl
theorem wkC : (syncM wk2 sA).2 = 0 := by kernel_rfl
theorem wkD : (syncDirM wk3).2 = 0 := by kernel_rfl
theorem wkE : (appendM wk4 sA ⟨#[122]⟩).2 = 0 := by kernel_rfl
theorem wkF : readM wk5 sA = (⟨#[120, 121, 122]⟩, 0) := by kernel_rfl
theorem wkG : wk5.steps = 5 ∧ (crashM wk5 0 []).2 = 0 ∧ wk6.down = true := ⟨by kernel_rfl, by kernel_rfl, by kernel_rfl⟩
theorem wkH : createM wk6 ⟨#[98]⟩ = (wk6, 203) := by kernel_rfl
theorem wkI : (startM wk6).2 = 0 := by kernel_rfl
theorem wkJ : readM wk7 sA = (⟨#[120, 121]⟩, 0) := by kernel_rfl
theorem wkK : (createM wk7 ⟨#[97, 47, 98]⟩).2 = 202 := by kernel_rfl
end Go.Proofs.YtlheilkofibogaaGreat
namespace Go.Proofs.YtlheilkofibogaaGreat
open Go.RowKit Go.Maps
set_option linter.unusedVariables false
set_option linter.unusedSimpArgs false
/-- A file system that was made behind w0. -/
structure Wk (w0 w : World) (g : Nat) (X : Gh) (F : Fs) (k : Nat) : Prop where
  fs : FsP w g X F
  q : X.qs.length ≤ k
  bel : Below w0.heap.size w0 w
  own : ∀ j, Own g F X j → w0.heap.size ≤ j
theorem Wk.step {w0 w w' : World} {g : Nat} {X X' : Gh} {F F' : Fs} {k : Nat} (h : Wk w0 w g X F k) (hb : Bec w g X F w' X' F') : Wk w0 w' g X' F' (k + 1) := by
  refine ⟨hb.is, by have := hb.len; have := h.q; omega, h.bel.trans ⟨hb.md.os, hb.md.tape, hb.md.output, hb.md.size, fun j hj => hb.md.oth j (Nat.lt_of_lt_of_le hj h.bel.size) (fun ho => by have := h.own j ho; omega)⟩, fun j hj => ?_⟩
  rcases hb.own j hj with h1 | h1
  · exact h.own j h1
  · exact Nat.le_trans h.bel.size h1
theorem Wk.on {w0 w w' : World} {g : Nat} {X : Gh} {F : Fs} {k : Nat} (h : Wk w0 w g X F k) (hb : Below w.heap.size w w') : Wk w0 w' g X F k := ⟨h.fs.on hb, h.q, bel_to h.bel hb (Nat.le_refl _), h.own⟩
theorem Wk.sm {w0 w : World} {g : Nat} {X : Gh} {F : Fs} {k : Nat} (h : Wk w0 w g X F k) (hk : k ≤ 1000) (a : F.steps ≤ 1000) (b : F.files.length ≤ 1000) (c : F.chg.length ≤ 1000) : Sm F X := ⟨by omega, by omega, by omega, by have := h.q; omega⟩
def small (F : Fs) : Bool := decide (F.steps ≤ 1000) && decide (F.files.length ≤ 1000) && decide (F.chg.length ≤ 1000) && decide (F.picks.length ≤ 1000)
theorem small_ok {F : Fs} (h : small F = true) : F.steps ≤ 1000 ∧ F.files.length ≤ 1000 ∧ F.chg.length ≤ 1000 ∧ F.picks.length ≤ 1000 := by
  unfold small at h; simp only [Bool.and_eq_true, decide_eq_true_eq] at h; exact ⟨h.1.1.1, h.1.1.2, h.1.2, h.2⟩
theorem sm0 : small newM = true := by kernel_rfl
theorem sm1 : small wk1 = true := by kernel_rfl
theorem sm2 : small wk2 = true := by kernel_rfl
theorem sm3 : small wk3 = true := by kernel_rfl
theorem sm4 : small wk4 = true := by kernel_rfl
theorem sm5 : small wk5 = true := by kernel_rfl
theorem sm6 : small wk6 = true := by kernel_rfl
theorem sm7 : small wk7 = true := by kernel_rfl
theorem wsA {w0 w : World} {g : Nat} {X : Gh} {k : Nat} (h : Wk w0 w g X newM k) (hk : k ≤ 900) : Calls Tryz.prog 15 #[ptr (some g), .string ⟨#[97]⟩] w fun e w' => e = .returned (.int .i64 0) ∧ ∃ X', Wk w0 w' g X' wk1 (k + 1) := by
  obtain ⟨a, b, c, d⟩ := small_ok sm0
  refine (Create_any goDownC g X newM sA (by decide) w h.fs (h.sm (by omega) a b c) (by omega) (by omega) (by omega)).mono ?_
  rintro e w' ⟨rfl, X', hb⟩
  exact ⟨by rw [wkA], X', h.step hb⟩
theorem wsB {w0 w : World} {g : Nat} {X : Gh} {k : Nat} (h : Wk w0 w g X wk1 k) (hk : k ≤ 900) : Calls Tryz.prog 16 #[ptr (some g), .string ⟨#[97]⟩, .string ⟨#[120, 121]⟩] w fun e w' => e = .returned (.int .i64 0) ∧ ∃ X', Wk w0 w' g X' wk2 (k + 1) := by
  obtain ⟨a, b, c, d⟩ := small_ok sm1
  refine (Append_any goDownC g X wk1 sA ⟨#[120, 121]⟩ (by decide) (by decide) w h.fs (h.sm (by omega) a b c) (by omega) (by omega)).mono ?_
  rintro e w' ⟨rfl, X', hb⟩
  exact ⟨by rw [wkB], X', h.step hb⟩
theorem wsC {w0 w : World} {g : Nat} {X : Gh} {k : Nat} (h : Wk w0 w g X wk2 k) (hk : k ≤ 900) : Calls Tryz.prog 17 #[ptr (some g), .string ⟨#[97]⟩] w fun e w' => e = .returned (.int .i64 0) ∧ ∃ X', Wk w0 w' g X' wk3 (k + 1) := by
  obtain ⟨a, b, c, d⟩ := small_ok sm2
  refine (Sync_any goDownC g X wk2 sA (by decide) w h.fs (h.sm (by omega) a b c) (by omega) (by omega)).mono ?_
  rintro e w' ⟨rfl, X', hb⟩
  exact ⟨by rw [wkC], X', h.step hb⟩
theorem wsD {w0 w : World} {g : Nat} {X : Gh} {k : Nat} (h : Wk w0 w g X wk3 k) (hk : k ≤ 900) : Calls Tryz.prog 18 #[ptr (some g)] w fun e w' => e = .returned (.int .i64 0) ∧ ∃ X', Wk w0 w' g X' wk4 (k + 1) := by
  obtain ⟨a, b, c, d⟩ := small_ok sm3
  refine (SyncDir_any goDownC g X wk3 w h.fs (h.sm (by omega) a b c) (by omega) (by omega)).mono ?_
  rintro e w' ⟨rfl, X', hb⟩
  exact ⟨by rw [wkD], X', h.step hb⟩
theorem wsE {w0 w : World} {g : Nat} {X : Gh} {k : Nat} (h : Wk w0 w g X wk4 k) (hk : k ≤ 900) : Calls Tryz.prog 16 #[ptr (some g), .string ⟨#[97]⟩, .string ⟨#[122]⟩] w fun e w' => e = .returned (.int .i64 0) ∧ ∃ X', Wk w0 w' g X' wk5 (k + 1) := by
  obtain ⟨a, b, c, d⟩ := small_ok sm4
  refine (Append_any goDownC g X wk4 sA ⟨#[122]⟩ (by decide) (by decide) w h.fs (h.sm (by omega) a b c) (by omega) (by omega)).mono ?_
  rintro e w' ⟨rfl, X', hb⟩
  exact ⟨by rw [wkE], X', h.step hb⟩
theorem wsG {w0 w : World} {g : Nat} {X : Gh} {k : Nat} (h : Wk w0 w g X wk5 k) (hk : k ≤ 900) : Calls Tryz.prog 21 #[ptr (some g), .int .i64 0, .slice none 0 0] w fun e w' => e = .returned (.int .i64 0) ∧ ∃ X', Wk w0 w' g X' wk6 (k + 1) := by
  obtain ⟨a, b, c, d⟩ := small_ok sm5
  refine (Crash_any g X wk5 0 (.slice none 0 0) [] (by decide) w h.fs (h.sm (by omega) a b c) Pks.nil).mono ?_
  rintro e w' ⟨rfl, X', hb⟩
  exact ⟨by rw [wkG.2.1], X', h.step hb⟩
theorem wsI {w0 w : World} {g : Nat} {X : Gh} {k : Nat} (h : Wk w0 w g X wk6 k) : Calls Tryz.prog 23 #[ptr (some g)] w fun e w' => e = .returned (.int .i64 0) ∧ ∃ X', Wk w0 w' g X' wk7 (k + 1) := by
  refine (Start_any g X wk6 w h.fs).mono ?_
  rintro e w' ⟨rfl, hb⟩
  exact ⟨by rw [wkI], X, h.step hb⟩
theorem wsH {w0 w : World} {g : Nat} {X : Gh} {k : Nat} (h : Wk w0 w g X wk6 k) (hk : k ≤ 900) : Calls Tryz.prog 15 #[ptr (some g), .string ⟨#[98]⟩] w fun e w' => e = .returned (.int .i64 203) ∧ ∃ X', Wk w0 w' g X' wk6 (k + 1) := by
  obtain ⟨a, b, c, d⟩ := small_ok sm6
  refine (Create_any goDownC g X wk6 ⟨#[98]⟩ (by decide) w h.fs (h.sm (by omega) a b c) (by omega) (by omega) (by omega)).mono ?_
  rintro e w' ⟨rfl, X', hb⟩
  rw [wkH] at hb ⊢
  exact ⟨rfl, X', h.step hb⟩
theorem wsK {w0 w : World} {g : Nat} {X : Gh} {k : Nat} (h : Wk w0 w g X wk7 k) (hk : k ≤ 900) : Calls Tryz.prog 15 #[ptr (some g), .string ⟨#[97, 47, 98]⟩] w fun e w' => e = .returned (.int .i64 202) ∧ Below w0.heap.size w0 w' := by
  obtain ⟨a, b, c, d⟩ := small_ok sm7
  refine (Create_any goDownC g X wk7 ⟨#[97, 47, 98]⟩ (by decide) w h.fs (h.sm (by omega) a b c) (by omega) (by omega) (by omega)).mono ?_
  rintro e w' ⟨rfl, X', hb⟩
  exact ⟨by rw [wkK], (h.step hb).bel⟩
theorem wsF {w0 w : World} {g : Nat} {X : Gh} {k : Nat} (h : Wk w0 w g X wk5 k) : Calls Tryz.prog 19 #[ptr (some g), .string ⟨#[97]⟩] w fun e w' => e = .returned (.tuple #[.string ⟨#[120, 121, 122]⟩, .int .i64 0]) ∧ Wk w0 w' g X wk5 k := by
  refine (Read_any g X wk5 sA (by decide) w h.fs).mono ?_
  rintro e w' ⟨rfl, hb⟩
  exact ⟨by rw [wkF], h.on hb⟩
theorem wsJ {w0 w : World} {g : Nat} {X : Gh} {k : Nat} (h : Wk w0 w g X wk7 k) : Calls Tryz.prog 19 #[ptr (some g), .string ⟨#[97]⟩] w fun e w' => e = .returned (.tuple #[.string ⟨#[120, 121]⟩, .int .i64 0]) ∧ Wk w0 w' g X wk7 k := by
  refine (Read_any g X wk7 sA (by decide) w h.fs).mono ?_
  rintro e w' ⟨rfl, hb⟩
  exact ⟨by rw [wkJ], h.on hb⟩
end Go.Proofs.YtlheilkofibogaaGreat
namespace Go.Proofs.YtlheilkofibogaaGreat
open Go.RowKit Go.Maps
set_option linter.unusedVariables false
set_option linter.unusedSimpArgs false
theorem NewW_any (w : World) : Calls Tryz.prog 5 #[] w fun e w' => ∃ g X, e = .returned (.pointer (some ⟨g, 0, none⟩)) ∧ Wk w w' g X newM 3298534883328 := (New_any w).mono (fun e w' h => by
  obtain ⟨g, X, rfl, hf, hsm, hb, hown⟩ := h
  exact ⟨g, X, rfl, hf, hsm.qs, hb, hown⟩)
theorem Wk.low {w0 w : World} {g : Nat} {X : Gh} {F : Fs} {k : Nat} (h : Wk w0 w g X F k) (hq : X.qs = []) : Wk w0 w g X F 0 := ⟨h.fs, by rw [hq]; exact Nat.le_refl _, h.bel, h.own⟩
theorem Plans.new {qs : List Pq} (h : Plans newM qs) (hl : ∀ q ∈ qs, ∃ W, Holds W newM q) : qs = [] := by
  cases qs with
  | nil => rfl
  | cons q l =>
    obtain ⟨W, hh⟩ := hl q (by simp)
    have ha := h.ahead q (by simp)
    cases hc : q.c with
    | true => have := (hh.cr hc).1; have h0 : newM.crash = 0 := rfl; have h1 : newM.steps = 0 := rfl; omega
    | false => obtain ⟨p, _, hf⟩ := hh.fl hc; simp [newM, failM] at hf
set_option maxHeartbeats 4000000 in
set_option maxRecDepth 100000 in
theorem works_any (w : World) : Calls Tryz.prog 7 #[] w fun e w' => e = .returned (.bool true) ∧ Below w.heap.size w w' := by
  have HNEW : Hid _ := NewW_any w
  go_enter Tryz.func7, Tryz.ntmps7
  go_wp2_with fail
  refine (show Calls _ _ _ _ _ from HNEW.out).mono ?_
  rintro e w1 ⟨g, X, rfl, hk⟩
  have H0 : Hid (Wk w w1 g X newM 0) := hk.low (hk.fs.pln.new (fun q hq => ⟨w1, hk.fs.hld q hq⟩))
  clear hk HNEW
  have HC : Hid _ := wsA H0.out (by omega)
  unfold ptr at HC
  go_wp2_with fail
  refine (show Calls _ _ _ _ _ from HC.out).mono ?_
  rintro e w2 ⟨rfl, X2, h2⟩
  clear HC H0
  have HC : Hid _ := wsB h2 (by omega)
  unfold ptr at HC
  clear h2
  go_wp2_with fail
  refine (show Calls _ _ _ _ _ from HC.out).mono ?_
  rintro e w3 ⟨rfl, X3, h3⟩
  clear HC
  have HC : Hid _ := wsC h3 (by omega)
  unfold ptr at HC
  clear h3
  go_wp2_with fail
  refine (show Calls _ _ _ _ _ from HC.out).mono ?_
  rintro e w4 ⟨rfl, X4, h4⟩
  clear HC
  have HC : Hid _ := wsD h4 (by omega)
  unfold ptr at HC
  clear h4
  go_wp2_with fail
  refine (show Calls _ _ _ _ _ from HC.out).mono ?_
  rintro e w5 ⟨rfl, X5, h5⟩
  clear HC
  have HC : Hid _ := wsE h5 (by omega)
  unfold ptr at HC
  clear h5
  go_wp2_with fail
  refine (show Calls _ _ _ _ _ from HC.out).mono ?_
  rintro e w6 ⟨rfl, X6, h6⟩
  clear HC
  have HC : Hid _ := wsF h6
  unfold ptr at HC
  clear h6
  go_wp2_with fail
  refine (show Calls _ _ _ _ _ from HC.out).mono ?_
  rintro e w7 ⟨rfl, h7⟩
  clear HC
  have H7 : Hid _ := h7
  have HC : Hid (Calls Tryz.prog 20 #[ptr (some g)] w7 fun e w' => e = .returned (.int .i64 5) ∧ w' = w7) := (Steps_any g X6 wk5 w7 h7.fs).mono (fun e w' q => by rw [wkG.1] at q; exact q)
  unfold ptr at HC
  clear h7
  go_wp2_with fail
  refine (show Calls _ _ _ _ _ from HC.out).mono ?_
  rintro e w8 ⟨rfl, rfl⟩
  clear HC
  have HC : Hid _ := wsG H7.out (by omega)
  unfold ptr at HC
  clear H7
  go_wp2_with fail
  refine (show Calls _ _ _ _ _ from HC.out).mono ?_
  rintro e w9 ⟨rfl, X9, h9⟩
  clear HC
  have H9 : Hid _ := h9
  have HC : Hid (Calls Tryz.prog 22 #[ptr (some g)] w9 fun e w' => e = .returned (.bool false) ∧ w' = w9) := (Up_any g X9 wk6 w9 h9.fs).mono (fun e w' q => by rw [wkG.2.2] at q; exact q)
  unfold ptr at HC
  clear h9
  go_wp2_with fail
  refine (show Calls _ _ _ _ _ from HC.out).mono ?_
  rintro e w10 ⟨rfl, rfl⟩
  clear HC
  have HC : Hid _ := wsH H9.out (by omega)
  unfold ptr at HC
  clear H9
  go_wp2_with fail
  refine (show Calls _ _ _ _ _ from HC.out).mono ?_
  rintro e w11 ⟨rfl, X11, h11⟩
  clear HC
  have HC : Hid _ := wsI h11
  unfold ptr at HC
  clear h11
  go_wp2_with fail
  refine (show Calls _ _ _ _ _ from HC.out).mono ?_
  rintro e w12 ⟨rfl, X12, h12⟩
  clear HC
  have HC : Hid _ := wsJ h12
  unfold ptr at HC
  clear h12
  go_wp2_with fail
  refine (show Calls _ _ _ _ _ from HC.out).mono ?_
  rintro e w13 ⟨rfl, h13⟩
  clear HC
  have HC : Hid _ := wsK h13 (by omega)
  unfold ptr at HC
  clear h13
  go_wp2_with fail
  refine (show Calls _ _ _ _ _ from HC.out).mono ?_
  rintro e w14 ⟨rfl, hb⟩
  have HB : Hid _ := hb
  clear HC hb
  go_wp2
  go_returns
  exact ⟨rfl, HB.out⟩
end Go.Proofs.YtlheilkofibogaaGreat
