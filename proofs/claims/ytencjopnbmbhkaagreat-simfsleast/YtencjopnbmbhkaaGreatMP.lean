import Derived.Test.YtencjopnbmbhkaaGreatMO
import Derived.Test.YtencjopnbmbhkaaGreatPlE
import Derived.BigQuiet
namespace Go.Proofs.YtencjopnbmbhkaaGreat
open Go.RowKit Go.Maps
set_option linter.unusedVariables false
set_option linter.unusedSimpArgs false
/-- Nothing can be lost. -/
structure Tight (F : Fs) : Prop where
  ch : F.chg = []
  su : F.sure = F.dir
  sz : ∀ x ∈ F.dir, (fileAt F x.2.toNat).s = (fileAt F x.2.toNat).d.size
theorem now_fa (F : Fs) : nowM F = F.dir.map fun x => (x.1, (fileAt F x.2.toNat).d) := rfl
theorem safe_fa (F : Fs) : safeM F = F.sure.map fun x => (x.1, (fileAt F x.2.toNat).d.extract 0 (fileAt F x.2.toNat).s) := rfl
theorem Tight.safe {F : Fs} (h : Tight F) : safeM F = nowM F := by
  rw [now_fa, safe_fa, h.su]
  exact List.map_congr_left (fun x hx => by rw [h.sz x hx, ext_all])
theorem cut_size (x : Fi) (k : Nat) (h : x.s + k ≤ x.d.size) : (cutF x k).s = (cutF x k).d.size := by
  show x.s + k = (x.d.extract 0 (x.s + k)).size
  rw [ext_len]; omega
theorem down_dirK (F : Fs) (p : List Int) : (downM F p).dir = dirK F (pickM p 0 F.chg.length) := rfl
theorem down_tight {F : Fs} {cf : List Nat} (hf : FOk F cf) (hs : ∀ j, j ≤ F.chg.length → ∀ x ∈ dirK F j, (fileAt F x.2.toNat).s ≤ (fileAt F x.2.toNat).d.size) (p : List Int) : Tight (downM F p) := by
  have hj : pickM p 0 F.chg.length ≤ F.chg.length := pkM_le p 0 _
  refine ⟨rfl, rfl, fun x hx => ?_⟩
  rw [down_dirK] at hx
  have hlt : x.2.toNat < F.files.length := by
    have := (hf.dirs _ hj).lt x hx
    have := (hf.dirs _ hj).ge x hx
    omega
  rw [down_file p hlt]
  refine cut_size _ _ ?_
  have h1 := hs _ hj x hx
  have h2 := pkM_le p (x.2.toNat + 1) ((fileAt F x.2.toNat).d.size - (fileAt F x.2.toNat).s)
  omega
theorem down_nil {F : Fs} {cf : List Nat} (hf : FOk F cf) : nowM (downM F []) = safeM F := by
  rw [now_fa, safe_fa]
  have hd : (downM F []).dir = F.sure := by
    rw [down_dirK]
    have : pickM [] 0 F.chg.length = 0 := rfl
    rw [this]; rfl
  rw [hd]
  refine List.map_congr_left (fun x hx => ?_)
  have hlt : x.2.toNat < F.files.length := by
    have := hf.sure.lt x hx
    have := hf.sure.ge x hx
    omega
  rw [down_file [] hlt]
  have : pickM [] (x.2.toNat + 1) ((fileAt F x.2.toNat).d.size - (fileAt F x.2.toNat).s) = 0 := rfl
  rw [this]
  rfl
theorem Tight.down {F : Fs} {cf : List Nat} (h : Tight F) (hf : FOk F cf) (p : List Int) : nowM (downM F p) = nowM F := by
  rw [now_fa, now_fa]
  have hd : (downM F p).dir = F.dir := by
    rw [down_dirK, h.ch]
    show (List.take _ F.chg).foldl afterM F.sure = _
    rw [h.ch, h.su]; simp
  rw [hd]
  refine List.map_congr_left (fun x hx => ?_)
  have hlt : x.2.toNat < F.files.length := by
    have := hf.dir.lt x hx
    have := hf.dir.ge x hx
    omega
  rw [down_file p hlt]
  have h1 := h.sz x hx
  have h2 := pkM_le p (x.2.toNat + 1) ((fileAt F x.2.toNat).d.size - (fileAt F x.2.toNat).s)
  have h3 : pickM p (x.2.toNat + 1) ((fileAt F x.2.toNat).d.size - (fileAt F x.2.toNat).s) = 0 := by omega
  rw [h3]
  show (x.1, (fileAt F x.2.toNat).d.extract 0 ((fileAt F x.2.toNat).s + 0)) = _
  rw [Nat.add_zero, h1, ext_all]
theorem Tight.start {F : Fs} (h : Tight F) : Tight (startM F).1 := by
  unfold startM
  split
  · exact ⟨h.ch, h.su, h.sz⟩
  · exact h
theorem now_start (F : Fs) : nowM (startM F).1 = nowM F := by
  unfold startM
  split <;> rfl
/-- Behind Sync of the first k names. -/
def SyP (F : Fs) (k : Nat) : Prop := ∀ x ∈ F.dir.take k, (fileAt F x.2.toNat).s = (fileAt F x.2.toNat).d.size
theorem stepM_zero {F : Fs} (h : (stepM F).2.1 = 0) : (stepM F).1 = up1 F := by
  rcases stepM_cases F with h1 | ⟨h1, _⟩ | ⟨_, h2⟩
  · rw [h1] at h; cases h
  · rw [h1] at h; cases h
  · exact h2
theorem syncM_zero {F : Fs} {n : ByteArray} (h : (syncM F n).2 = 0) : hasM F n = 0 ∧ (syncM F n).1 = { up1 F with files := F.files.set (findM F.dir n).toNat ⟨(fileAt F (findM F.dir n).toNat).d, (fileAt F (findM F.dir n).toNat).d.size⟩ } := by
  unfold syncM at h ⊢
  by_cases h0 : hasM F n = 0
  · rw [if_pos h0] at h ⊢
    by_cases h1 : (stepM F).2.1 = 0
    · simp only [h1, if_true] at h ⊢
      rw [stepM_zero h1]
      exact ⟨h0, rfl⟩
    · simp only [h1, if_false] at h
  · rw [if_neg h0] at h
    exact absurd h h0
theorem SyP.next {F : Fs} {cf : List Nat} {k : Nat} (hf : FOk F cf) (h : SyP F k) (hk : k < F.dir.length) (h0 : (syncM F (F.dir[k]).1).2 = 0) : (syncM F (F.dir[k]).1).1.dir = F.dir ∧ (syncM F (F.dir[k]).1).1.down = F.down ∧ SyP (syncM F (F.dir[k]).1).1 (k + 1) := by
  obtain ⟨h1, h2⟩ := syncM_zero h0
  have hfi := findM_in hf.dir.rise (List.getElem_mem hk)
  have hlt : (F.dir[k]).2.toNat < F.files.length := by
    have := hf.dir.lt _ (List.getElem_mem hk)
    have := hf.dir.ge _ (List.getElem_mem hk)
    omega
  rw [h2, hfi]
  refine ⟨rfl, rfl, fun x hx => ?_⟩
  have hx' : x ∈ F.dir.take (k + 1) := hx
  show ((F.files.set (F.dir[k]).2.toNat _).getD x.2.toNat ⟨⟨#[]⟩, 0⟩).s = ((F.files.set (F.dir[k]).2.toNat _).getD x.2.toNat ⟨⟨#[]⟩, 0⟩).d.size
  rw [set_getD]
  by_cases e : (F.dir[k]).2.toNat = x.2.toNat
  · rw [if_pos ⟨e, hlt⟩]
  · rw [if_neg (fun hh => e hh.1)]
    rw [List.take_succ_eq_append_getElem hk] at hx'
    rcases List.mem_append.1 hx' with h3 | h3
    · exact h x h3
    · have : x = F.dir[k] := by simpa using h3
      exact absurd (by rw [this]) e
theorem SyP.tight {F : Fs} (h : SyP F F.dir.length) (h0 : (syncDirM F).2 = 0) : Tight (syncDirM F).1 ∧ (syncDirM F).1.down = false ∧ (syncDirM F).1.dir = F.dir := by
  unfold syncDirM at h0 ⊢
  by_cases hd : F.down = true
  · rw [if_pos hd] at h0; cases h0
  · rw [if_neg hd] at h0 ⊢
    by_cases h1 : (stepM F).2.1 = 0
    · simp only [h1, if_true]
      rw [stepM_zero h1]
      refine ⟨⟨rfl, rfl, fun x hx => ?_⟩, ?_, rfl⟩
      · exact h x (by rw [List.take_length]; exact hx)
      · show F.down = false
        simpa using hd
    · simp only [h1, if_false] at h0
/-- List, of one that is up. -/
theorem List_any {w0 W : World} {g : Nat} {X : Gh} {F : Fs} {i : Nat} (h : St w0 W g X F i) (hu : F.down = false) : Calls Tryz.prog 16 #[ptr (some g)] W fun e w' => ∃ P c, e = .returned (.tuple #[.slice P F.dir.length c, .int .i64 0]) ∧ w'.ownsRow W.heap.size 9 1 (.slice P F.dir.length c) F.dir.length (psE.fl (F.dir.map (·.1))) ∧ Below W.heap.size W w' := by
  obtain ⟨c0, _, _, c3, _⟩ := h.fs.cells
  rw [hu] at c0
  have HNM : Hid _ := names_any X.mn F.dir.length (dirF F.dir X.fb) (F.dir.map (·.1)) (names_of h.fs.ok.dir X.fb) (by have := h.fs.ok.dir.few; omega) (fun m hm => by
    obtain ⟨x, hx, rfl⟩ := List.mem_map.1 hm
    have := (named_size (h.fs.ok.dir.nam x hx)).2
    omega) W h.fs.now_k
  clear h hu
  show Calls Tryz.prog 16 #[.pointer (some ⟨g, 0, none⟩)] W _
  go_enter Tryz.func16, Tryz.ntmps16
  go_wp2_with fail
  refine (show Calls _ _ _ _ _ from HNM.out).mono ?_
  rintro e w' ⟨v, rfl, ho, hb⟩
  rw [List.length_map] at ho
  obtain ⟨P, c, rfl⟩ := own_form ho
  have HO : Hid (w'.ownsRow W.heap.size 9 1 (.slice P F.dir.length c) F.dir.length (psE.fl (F.dir.map (·.1)))) := ho
  clear ho HNM
  go_wp2
  go_returns
  exact ⟨P, c, rfl, HO.out, hb⟩
end Go.Proofs.YtencjopnbmbhkaaGreat
namespace Go.Proofs.YtencjopnbmbhkaaGreat
open Go.RowKit Go.Maps
set_option linter.unusedVariables false
set_option linter.unusedSimpArgs false
/-- What a call of one file system comes to, its blocks told. -/
def BcP (w0 W : World) (g : Nat) (X : Gh) (F F' : Fs) (r : Int) (i : Nat) (e : Ending) (w' : World) : Prop := e = .returned (.int .i64 r) ∧ ∃ X', St w0 w' g X' F' (i + 1) ∧ Bec W g X F w' X' F'
theorem bc_of {w0 W : World} {g i : Nat} {X : Gh} {F F' : Fs} {r : Int} {e : Ending} {w' : World} (h : St w0 W g X F i) (hg : GrowP 17592186044416 F F') (he : e = .returned (.int .i64 r)) (hB : ∃ X', Bec W g X F w' X' F') : BcP w0 W g X F F' r i e w' := by
  obtain ⟨X', hB⟩ := hB
  have g1 := hg.st
  have g2 := hg.fi
  have g3 := hg.ch
  have hst := h.st
  have hfi := h.fi
  have hch := h.ch
  exact ⟨he, X', ⟨h.toWk.step hB, by omega, by omega, by omega, hg.pk h.pk⟩, hB⟩
theorem St.sm {w0 W : World} {g i : Nat} {X : Gh} {F : Fs} (h : St w0 W g X F i) (hi : i < 2199023255552) : Sm F X := by
  have hst := h.st
  have hfi := h.fi
  have hch := h.ch
  have hq := h.q
  exact ⟨by omega, by omega, by omega, by omega⟩
theorem sync_bc {w0 W : World} {g i : Nat} {X : Gh} {F : Fs} (h : St w0 W g X F i) (hi : i < 2199023255552) (n : ByteArray) (hn : n.size ≤ 64) : Calls Tryz.prog 17 #[ptr (some g), .string n] W fun e w' => BcP w0 W g X F (syncM F n).1 (syncM F n).2 i e w' :=
  (Sync_any goDownC g X F n (by omega) W h.fs (h.sm hi) (by have := h.st; omega) h.pk).mono fun e w' hh => bc_of h (syncM_gp _ F n) hh.1 hh.2
theorem sdir_bc {w0 W : World} {g i : Nat} {X : Gh} {F : Fs} (h : St w0 W g X F i) (hi : i < 2199023255552) : Calls Tryz.prog 18 #[ptr (some g)] W fun e w' => BcP w0 W g X F (syncDirM F).1 (syncDirM F).2 i e w' :=
  (SyncDir_any goDownC g X F W h.fs (h.sm hi) (by have := h.st; omega) h.pk).mono fun e w' hh => bc_of h (syncDirM_gp _ F) hh.1 hh.2
theorem start_bc {w0 W : World} {g i : Nat} {X : Gh} {F : Fs} (h : St w0 W g X F i) : Calls Tryz.prog 10 #[ptr (some g)] W fun e w' => BcP w0 W g X F (startM F).1 (startM F).2 i e w' :=
  (Start_any g X F W h.fs).mono fun e w' hh => bc_of h (startM_gp _ F) hh.1 ⟨X, hh.2⟩
theorem crash_bc {w0 W : World} {g i : Nat} {X : Gh} {F : Fs} {p : List Int} {pv : Value} (h : St w0 W g X F i) (hi : i < 2199023255552) (hu : F.down = false) (hp : p.length ≤ 17592186044416) (hv : Pks W (Own g F X) pv p) : Calls Tryz.prog 13 #[ptr (some g), .int .i64 0, pv] W fun e w' => BcP w0 W g X F (downM F p) 0 i e w' := by
  have hM : crashM F 0 p = (downM F p, 0) := by
    unfold crashM; rw [hu, if_neg (by decide), if_neg (by omega), if_pos rfl]
  have := Crash_any g X F 0 pv p hp W h.fs (h.sm hi) hv
  rw [hM] at this
  exact this.mono fun e w' hh => bc_of h (down_gp _ F p) hh.1 hh.2
/-- Another file system, apart, is left alone. -/
theorem St.aside {w0 W W' : World} {g gl i j k : Nat} {X X' Xg : Gh} {F F' Fg : Fs} (hf : St w0 W g X F i) (hf' : St w0 W' g X' F' k) (hb : Bec W g X F W' X' F') (hg : St w0 W gl Xg Fg j) (hd : ∀ q, Own gl Fg Xg q → ¬ Own g F X q) : St w0 W' gl Xg Fg j ∧ ∀ q, Own gl Fg Xg q → ¬ Own g F' X' q := by
  refine ⟨⟨⟨hg.fs.mod hb.md (fun q hq ho => hd q ho hq) (fun q cs t fz hq hc => hf.fs.own_ty hq hc), hg.q, hf'.bel, hg.own⟩, hg.st, hg.fi, hg.ch, hg.pk⟩, fun q ho hq => ?_⟩
  rcases hb.own q hq with h1 | h1
  · exact hd q ho h1
  · have := hg.fs.own_lt ho
    omega
theorem clone_st {w0 W : World} {g i : Nat} {X : Gh} {F : Fs} (h : St w0 W g X F i) (hi : i < 2199023255552) : Calls Tryz.prog 12 #[ptr (some g)] W fun e w' => ∃ gl Xg, e = .returned (ptr (some gl)) ∧ St w0 w' gl Xg F i ∧ St w0 w' g X F i ∧ (∀ q, Own gl F Xg q → ¬ Own g F X q) ∧ Below W.heap.size W w' := by
  refine (Clone_any g X F W h.fs (h.sm hi)).mono ?_
  rintro e w' ⟨gl, Xg, rfl, h1, h2, h3, h4⟩
  have hb : Below W.heap.size W w' := ⟨h2.os, h2.tape, h2.output, h2.size, fun q hq => h2.oth q hq (fun e => e)⟩
  have hg := h.on hb
  refine ⟨gl, Xg, rfl, ⟨⟨h1, by rw [h4]; exact h.q, hg.bel, fun q hq => by have := h3 q hq; have := h.bel.size; omega⟩, h.st, h.fi, h.ch, h.pk⟩, hg, fun q hq ho => ?_, hb⟩
  have := h3 q hq
  have := h.fs.own_lt ho
  omega
/-- A row of names of its own, apart from a file system. -/
structure NmR (W : World) (g : Nat) (X : Gh) (F : Fs) (v : Value) (L : List ByteArray) : Prop where
  ro : W.ownsRow 0 9 1 v L.length (psE.fl L)
  ap : ∀ q, v.ownBlock = some q → ¬ Own g F X q
theorem NmR.bec {W W' : World} {g : Nat} {X X' : Gh} {F F' : Fs} {v : Value} {L : List ByteArray} (h : NmR W g X F v L) (hb : Bec W g X F W' X' F') : NmR W' g X' F' v L := by
  refine ⟨own_to h.ro (fun q hq => ?_), fun q hq ho => ?_⟩
  · obtain ⟨cu, hc⟩ := own_type h.ro hq
    exact hb.md.oth q (row_lt hc) (h.ap q hq)
  · obtain ⟨cu, hc⟩ := own_type h.ro hq
    have := row_lt hc
    rcases hb.own q ho with h1 | h1
    · exact h.ap q hq h1
    · omega
theorem NmR.cell {W : World} {g : Nat} {X : Gh} {F : Fs} {P : Option Addr} {n c k : Nat} {L : List ByteArray} (h : NmR W g X F (.slice P n c) L) (hk : k < L.length) : ∃ r o, P = some ⟨r, o, none⟩ ∧ W.cell? ⟨r, o + k, none⟩ = some (.string L[k]) := by
  obtain ⟨r, o, c', e, hc⟩ := (KR.own (E := psE) h.ro rfl).cell psOk hk
  have h0 := hc 0 (.string L[k]) rfl
  injection e with e1 _ _
  have hk1 : psE.k = 1 := rfl
  rw [hk1, Nat.mul_one, Nat.add_zero] at h0
  exact ⟨r, o, e1, h0⟩
/-- As long as nothing falls. -/
theorem upStart (F : Fs) : (startM F).1.down = false := by
  unfold startM
  cases h : F.down with
  | true => rfl
  | false => simpa using h
theorem St.sfile {w0 W : World} {g i : Nat} {X : Gh} {F : Fs} (h : St w0 W g X F i) : ∀ j, j ≤ F.chg.length → ∀ x ∈ dirK F j, (fileAt F x.2.toNat).s ≤ (fileAt F x.2.toNat).d.size := fun j hj x hx => (h.fs.file (dirK_live (X := X) h.fs.ok j hj x hx)).sf
end Go.Proofs.YtencjopnbmbhkaaGreat
namespace Go.Proofs.YtencjopnbmbhkaaGreat
open Go.RowKit Go.Maps
set_option linter.unusedVariables false
set_option linter.unusedSimpArgs false
theorem pks_at {w W : World} {g i : Nat} {X : Gh} {F : Fs} {pv : Value} {p : List Int} (hP : KR pinE w pv p) (hB : p ≠ [] → ∀ b x n c, pv = .slice (some ⟨b, x, none⟩) n c → b < w.heap.size) (h : St w W g X F i) : Pks W (Own g F X) pv p :=
  ⟨kr_under hP hB h.bel, fun hp b o n c e hs => by have := hB hp b o n c e; have := h.own b hs; omega⟩
theorem pks_no {W : World} {S : Nat → Prop} : Pks W S (.slice none 0 0) [] := ⟨KR.nil, fun h => absurd rfl h⟩
/-- Two file systems apart, and a row of pairs. -/
structure Two (w W : World) (g gl : Nat) (X Xg : Gh) (F Fg : Fs) (i j : Nat) (sv : Value) (l : List (ByteArray × ByteArray)) : Prop where
  s : St w W g X F i
  t : St w W gl Xg Fg j
  ap : ∀ q, Own gl Fg Xg q → ¬ Own g F X q
  pr : PR W sv l
theorem Two.on {w W W' : World} {g gl : Nat} {X Xg : Gh} {F Fg : Fs} {i j : Nat} {sv : Value} {l : List (ByteArray × ByteArray)} (h : Two w W g gl X Xg F Fg i j sv l) (hb : Below W.heap.size W W') : Two w W' g gl X Xg F Fg i j sv l := ⟨h.s.on hb, h.t.on hb, h.ap, h.pr.on hb⟩
theorem Two.bec {w W W' : World} {g gl : Nat} {X X' Xg : Gh} {F F' Fg : Fs} {i k j : Nat} {sv : Value} {l : List (ByteArray × ByteArray)} (h : Two w W g gl X Xg F Fg i j sv l) (hs : St w W' g X' F' k) (hb : Bec W g X F W' X' F') : Two w W' g gl X' Xg F' Fg k j sv l := by
  obtain ⟨h1, h2⟩ := h.s.aside hs hb h.t h.ap
  exact ⟨hs, h1, h2, h.pr.mod h.s.fs.toFsC hb.md⟩
/-- where the loop of Sync stands. -/
structure Ls (w wr : World) (gl : Nat) (F1 : Fs) (i nd : Nat) (v : Value) (k : Nat) (Fg : Fs) (Xk : Gh) : Prop where
  st : St w wr gl Xk Fg (i + k)
  nm : NmR wr gl Xk Fg v (F1.dir.map (·.1))
  dir : Fg.dir = F1.dir
  up : Fg.down = false
  sy : SyP Fg k
set_option maxHeartbeats 16000000 in
set_option maxRecDepth 100000 in
theorem Least_walk (ad : Option Addr) (G off len cap : Nat) (pv : Value) (p : List Int) (w : World) (hA : len ≠ 0 → ad = some ⟨G, off, none⟩) (hL : len ≤ 1466015503700) (hO : ∀ i, i < len → ∃ o pv, OpA w.heap.size w G (off + i * 7) o pv) (hP : KR pinE w pv p) (hPL : p.length ≤ 17592186044416) (hPB : p ≠ [] → ∀ b x n c, pv = .slice (some ⟨b, x, none⟩) n c → b < w.heap.size) :
    Calls Tryz.prog 3 #[.slice ad len cap, pv] w fun e w' => e = .returned (.bool true) ∧ Below w.heap.size w w' := by
  obtain ⟨PP, pc, rfl⟩ := hP.form
  have HNW : Hid _ := NewW_any w
  have HWK : Hid (∀ W, Calls Tryz.prog 7 #[] W fun e w' => e = .returned (.bool true) ∧ Below W.heap.size W w') := works_any
  have HO : Hid _ := hO
  have HA : Hid _ := hA
  have HL : Hid (len ≤ 1466015503700) := hL
  have HP : Hid (KR pinE w (.slice PP p.length pc) p) := hP
  have HPL : Hid (p.length ≤ 17592186044416) := hPL
  have HPB : Hid (p ≠ [] → ∀ b x n c, (Value.slice PP p.length pc) = .slice (some ⟨b, x, none⟩) n c → b < w.heap.size) := hPB
  clear hO hA hP hPB hPL
  go_enter Tryz.func3, Tryz.ntmps3
  go_wp2_with fail
  refine (show Calls _ _ _ _ _ from HNW.out).mono ?_
  rintro e w1 ⟨g, X, rfl, hk⟩
  have H1 : Hid (St w w1 g X newM 0) := St.new hk
  clear hk HNW
  go_wp2_with fail
  refine (show Calls _ _ _ _ _ from HWK.out _).mono ?_
  rintro e w2 ⟨rfl, hb2⟩
  have H2 : Hid (St w w2 g X newM 0) := H1.out.on hb2
  clear hb2 H1 HWK
  go_wp2
  go_loopw [6] (fun ci wr => ∃ (i : Nat) (F : Fs) (X : Gh), i ≤ len ∧ ci = .int .i64 (i : Int) ∧ St w wr g X F i) (fun ci _ => len - (intOf ci).toNat)
  case atStart => exact ⟨0, newM, X, Nat.zero_le _, rfl, H2.out⟩
  case round =>
    obtain ⟨i, F, X, hi, rfl, hst⟩ := hrel
    have HST : Hid (St w wr g X F i) := hst
    clear hst
    by_cases hlt : i < len
    · have had := HA.out (by omega)
      subst had
      obtain ⟨o, pv, hop⟩ := HO.out i hlt
      have HOP : Hid (OpA w.heap.size wr G (off + i * 7) o pv) := hop.on HST.out.bel
      obtain ⟨C, hC⟩ : ∃ C, C = opArr o pv := ⟨_, rfl⟩
      have HC : Hid (C = opArr o pv) := hC
      have HCS : Hid (C.size = 7) := by show _ = _; rw [hC]; rfl
      have hz3 : (0 : Int) ≤ (i : Int) := by omega
      have hz4 : (i : Int) < (len : Int) := by omega
      have hiw : IntKind.i64.wrap ((i : Int) + 1) = (i : Int) + 1 := by rw [IntKind.wrap_i64] <;> omega
      have HOK : Hid (PoOk o) := hop.ok
      obtain ⟨F', r, hdm⟩ : ∃ F' r, doneM F o = (F', r) := ⟨_, _, rfl⟩
      have HQ : Hid (Calls Tryz.prog 8 #[.pointer (some ⟨g, 0, none⟩), .agg C] wr fun e w' => DoneP w wr g X F F' r i e w') := done_st HST.out (by omega) HC.out HOK.out (HOP.out.pks HST.out.own) hdm
      clear hop hC hdm
      go_wp2_with (first
        | (refine ldO C w.heap.size G (off + i * 7) o pv _ rfl rfl rfl HOP.out HC.out ?_))
      refine (show Calls _ _ _ _ _ from HQ.out).mono ?_
      rintro e w6 ⟨rfl, ⟨X6, hst6⟩, hmd⟩
      have HN : Hid (St w w6 g X6 F' (i + 1)) := hst6
      clear hst6 hmd HQ
      go_wp2
      go_roundw
      case rel => exact ⟨i + 1, _, _, hlt, rfl, HN.out⟩
      case measure => simp [intOf]; omega
    · have hil : i = len := by omega
      subst hil
      clear hlt
      obtain ⟨dn, hdn⟩ : ∃ dn, F.down = dn := ⟨_, rfl⟩
      have HDN : Hid (F.down = dn) := hdn
      have HUP : Hid (Calls Tryz.prog 9 #[.pointer (some ⟨g, 0, none⟩)] wr fun e w' => e = .returned (.bool (!dn)) ∧ w' = wr) := by
        have := Up_any g X F wr HST.out.fs
        rw [hdn] at this
        exact this
      clear hdn
      go_wp2_with fail
      refine (show Calls _ _ _ _ _ from HUP.out).mono ?_
      rintro e wc ⟨rfl, rfl⟩
      clear HUP
      cases dn
      case' false =>
        go_upto_region 10 with fail
        have HS1 : Hid (∃ X1 F1, St w wc g X1 F1 (i + 1) ∧ F1.down = false) := ⟨X, F, ⟨⟨HST.out.fs, Nat.le_succ_of_le HST.out.q, HST.out.bel, HST.out.own⟩, Nat.le_succ_of_le HST.out.st, Nat.le_succ_of_le HST.out.fi, Nat.le_succ_of_le HST.out.ch, HST.out.pk⟩, HDN.out⟩
        clear HST HDN
      case' true =>
        have HQ : Hid (Calls Tryz.prog 10 #[.pointer (some ⟨g, 0, none⟩)] wc fun e w' => BcP w wc g X F (startM F).1 (startM F).2 i e w') := start_bc HST.out
        go_wp2_with fail
        refine (show Calls _ _ _ _ _ from HQ.out).mono ?_
        rintro e wc ⟨rfl, X1, hs1, _⟩
        have HS1 : Hid (∃ X1 F1, St w wc g X1 F1 (i + 1) ∧ F1.down = false) := ⟨X1, _, hs1, upStart F⟩
        clear hs1 HQ HST HDN
        go_upto_region 10 with fail
      all_goals
        obtain ⟨X1, F1, hs1, hd1⟩ := HS1.out
        have HS : Hid (St w wc g X1 F1 (i + 1)) := hs1
        have HD : Hid (F1.down = false) := hd1
        clear hs1 hd1 HS1
        obtain ⟨ns, hns⟩ : ∃ ns, F1.sure.length = ns := ⟨_, rfl⟩
        have HNS : Hid (F1.sure.length = ns) := hns
        have HFW : Hid ((safeM F1).length ≤ 4611686018427387000) := by
          have h1 := HS.out.few.2
          show _ ≤ _
          rw [safe_len]; omega
        have HIL : Hid (i + 200 < 2199023255552) := by have := HL.out; show _ < _; omega
        clear hns
        have HQ : Hid (Calls Tryz.prog 11 #[.pointer (some ⟨g, 0, none⟩)] wc fun e w' => NowP wc (safeM F1) ns e w') := safe_st HS.out HNS.out
        go_wp2_with fail
        refine (show Calls _ _ _ _ _ from HQ.out).mono ?_
        rintro e w3 ⟨P1, c1, rfl, hp1, hb3⟩
        have HP1 : Hid (PR w3 (.slice P1 ns c1) (safeM F1)) := hp1
        have HS3 : Hid (St w w3 g X1 F1 (i + 1)) := HS.out.on hb3
        clear hp1 hb3 HS
        clear HQ
        have HQ : Hid (Calls Tryz.prog 12 #[.pointer (some ⟨g, 0, none⟩)] w3 fun e w' => ∃ gl Xg, e = .returned (.pointer (some ⟨gl, 0, none⟩)) ∧ St w w' gl Xg F1 (i + 1) ∧ St w w' g X1 F1 (i + 1) ∧ (∀ q, Own gl F1 Xg q → ¬ Own g F1 X1 q) ∧ Below w3.heap.size w3 w') := clone_st HS3.out (by have := HIL.out; omega)
        go_wp2_with fail
        refine (show Calls _ _ _ _ _ from HQ.out).mono ?_
        rintro e w4 ⟨gl, Xg, rfl, ht4, hs4, ha4, hb4⟩
        have HT4 : Hid (Two w w4 g gl X1 Xg F1 F1 (i + 1) (i + 1) (.slice P1 ns c1) (safeM F1)) := ⟨hs4, ht4, ha4, HP1.out.on hb4⟩
        clear ht4 hs4 ha4 hb4 HP1 HS3
        clear HQ
        have HQ : Hid (Calls Tryz.prog 13 #[.pointer (some ⟨g, 0, none⟩), .int .i64 0, .slice none 0 0] w4 fun e w' => BcP w w4 g X1 F1 (downM F1 []) 0 (i + 1) e w') := crash_bc HT4.out.s (by have := HIL.out; omega) HD.out (Nat.zero_le _) pks_no
        go_wp2_with fail
        refine (show Calls _ _ _ _ _ from HQ.out).mono ?_
        rintro e w5 ⟨rfl, X5, hs5, hB5⟩
        have HT5 : Hid (Two w w5 g gl X5 Xg (downM F1 []) F1 (i + 1 + 1) (i + 1) (.slice P1 ns c1) (safeM F1)) := HT4.out.bec hs5 hB5
        have HNO : Hid (nowM (downM F1 []) = safeM F1) := down_nil HT4.out.s.fs.ok
        have HTI : Hid (Tight (downM F1 [])) := down_tight HT4.out.s.fs.ok HT4.out.s.sfile []
        obtain ⟨F5, hF5⟩ : ∃ F5, downM F1 [] = F5 := ⟨_, rfl⟩
        have HDL : Hid ((downM F1 []).dir.length = ns ∧ (downM F1 []).sure.length = ns ∧ (downM F1 []).down = true) := ⟨HNS.out, HNS.out, rfl⟩
        rw [hF5] at HT5 HNO HTI HDL
        clear hs5 hB5 HT4 hF5
        clear HQ
        have HQ : Hid (Calls Tryz.prog 15 #[.pointer (some ⟨g, 0, none⟩)] w5 fun e w' => NowP w5 (nowM F5) ns e w') := now_st HT5.out.s HDL.out.1
        go_wp2_with fail
        refine (show Calls _ _ _ _ _ from HQ.out).mono ?_
        rintro e w6 ⟨P2, c2, rfl, hp2, hb6⟩
        have HP2 : Hid (PR w6 (.slice P2 ns c2) (safeM F1)) := by
          show PR _ _ _
          rw [← HNO.out]; exact hp2
        have HT6 : Hid (Two w w6 g gl X5 Xg F5 F1 (i + 1 + 1) (i + 1) (.slice P1 ns c1) (safeM F1)) := HT5.out.on hb6
        clear hp2 hb6 HT5
        clear HQ
        have HQ : Hid (Calls Tryz.prog 14 #[.slice P2 ns c2, .slice P1 ns c1] w6 fun e w' => e = .returned (.bool true) ∧ Below w6.heap.size w6 w') := same_st HFW.out HP2.out HT6.out.pr
        go_wp2_with fail
        refine (show Calls _ _ _ _ _ from HQ.out).mono ?_
        rintro e w7 ⟨rfl, hb7⟩
        have HT7 : Hid (Two w w7 g gl X5 Xg F5 F1 (i + 1 + 1) (i + 1) (.slice P1 ns c1) (safeM F1)) := HT6.out.on hb7
        clear hb7 HT6 HP2
        clear HQ
        have HQ : Hid (Calls Tryz.prog 11 #[.pointer (some ⟨g, 0, none⟩)] w7 fun e w' => NowP w7 (safeM F5) ns e w') := safe_st HT7.out.s HDL.out.2.1
        go_wp2_with fail
        refine (show Calls _ _ _ _ _ from HQ.out).mono ?_
        rintro e w8 ⟨P3, c3, rfl, hp3, hb8⟩
        have HP3 : Hid (PR w8 (.slice P3 ns c3) (safeM F1)) := by
          show PR _ _ _
          rw [← HNO.out, ← HTI.out.safe]; exact hp3
        have HT8 : Hid (Two w w8 g gl X5 Xg F5 F1 (i + 1 + 1) (i + 1) (.slice P1 ns c1) (safeM F1)) := HT7.out.on hb8
        clear hp3 hb8 HT7
        clear HQ
        have HQ : Hid (Calls Tryz.prog 14 #[.slice P3 ns c3, .slice P1 ns c1] w8 fun e w' => e = .returned (.bool true) ∧ Below w8.heap.size w8 w') := same_st HFW.out HP3.out HT8.out.pr
        go_wp2_with fail
        refine (show Calls _ _ _ _ _ from HQ.out).mono ?_
        rintro e w9 ⟨rfl, hb9⟩
        have HT9 : Hid (Two w w9 g gl X5 Xg F5 F1 (i + 1 + 1) (i + 1) (.slice P1 ns c1) (safeM F1)) := HT8.out.on hb9
        have HSR : Hid ((startM F5).2 = 0) := by
          show _ = _
          unfold startM
          rw [HDL.out.2.2]; rfl
        clear hb9 HT8 HP3
        clear HQ
        have HQ : Hid (Calls Tryz.prog 10 #[.pointer (some ⟨g, 0, none⟩)] w9 fun e w' => BcP w w9 g X5 F5 (startM F5).1 0 (i + 1 + 1) e w') := by
          have := start_bc HT9.out.s
          rw [HSR.out] at this
          exact this
        go_wp2_with fail
        refine (show Calls _ _ _ _ _ from HQ.out).mono ?_
        rintro e w10 ⟨rfl, X10, hs10, hB10⟩
        have HT10 : Hid (Two w w10 g gl X10 Xg (startM F5).1 F1 (i + 1 + 1 + 1) (i + 1) (.slice P1 ns c1) (safeM F1)) := HT9.out.bec hs10 hB10
        have HTI2 : Hid (Tight (startM F5).1) := HTI.out.start
        have HNO2 : Hid (nowM (startM F5).1 = safeM F1) := (now_start F5).trans HNO.out
        clear hs10 hB10 HT9 HQ HTI HNO HSR HDL
        have HQ : Hid (Calls Tryz.prog 13 #[.pointer (some ⟨g, 0, none⟩), .int .i64 0, .slice PP p.length pc] w10 fun e w' => BcP w w10 g X10 (startM F5).1 (downM (startM F5).1 p) 0 (i + 1 + 1 + 1) e w') := crash_bc HT10.out.s (by have := HIL.out; omega) (upStart F5) HPL.out (pks_at HP.out HPB.out HT10.out.s)
        go_wp2_with fail
        refine (show Calls _ _ _ _ _ from HQ.out).mono ?_
        rintro e w11 ⟨rfl, X11, hs11, hB11⟩
        have HNO3 : Hid (nowM (downM (startM F5).1 p) = safeM F1) := (HTI2.out.down HT10.out.s.fs.ok p).trans HNO2.out
        have HT11 : Hid (Two w w11 g gl X11 Xg (downM (startM F5).1 p) F1 (i + 1 + 1 + 1 + 1) (i + 1) (.slice P1 ns c1) (safeM F1)) := HT10.out.bec hs11 hB11
        have HDL3 : Hid ((downM (startM F5).1 p).dir.length = ns) := by
          show _ = _
          rw [← now_len, HNO3.out, safe_len, HNS.out]
        clear hs11 hB11 HT10 HTI2 HNO2
        clear HQ
        have HQ : Hid (Calls Tryz.prog 15 #[.pointer (some ⟨g, 0, none⟩)] w11 fun e w' => NowP w11 (nowM (downM (startM F5).1 p)) ns e w') := now_st HT11.out.s HDL3.out
        go_wp2_with fail
        refine (show Calls _ _ _ _ _ from HQ.out).mono ?_
        rintro e w12 ⟨P4, c4, rfl, hp4, hb12⟩
        have HP4 : Hid (PR w12 (.slice P4 ns c4) (safeM F1)) := by
          show PR _ _ _
          rw [← HNO3.out]; exact hp4
        have HG12 : Hid (St w w12 gl Xg F1 (i + 1)) := HT11.out.t.on hb12
        have HPR : Hid (PR w12 (.slice P1 ns c1) (safeM F1)) := HT11.out.pr.on hb12
        clear hp4 hb12 HT11 HNO3 HDL3
        clear HQ
        have HQ : Hid (Calls Tryz.prog 14 #[.slice P4 ns c4, .slice P1 ns c1] w12 fun e w' => e = .returned (.bool true) ∧ Below w12.heap.size w12 w') := same_st HFW.out HP4.out HPR.out
        go_wp2_with fail
        refine (show Calls _ _ _ _ _ from HQ.out).mono ?_
        rintro e w13 ⟨rfl, hb13⟩
        have HG13 : Hid (St w w13 gl Xg F1 (i + 1)) := HG12.out.on hb13
        clear hb13 HG12 HP4 HPR
        clear HQ
        obtain ⟨nd, hnd⟩ : ∃ nd, F1.dir.length = nd := ⟨_, rfl⟩
        have HND : Hid (F1.dir.length = nd) := hnd
        clear hnd
        have HQ : Hid (Calls Tryz.prog 16 #[.pointer (some ⟨gl, 0, none⟩)] w13 fun e w' => ∃ P c, e = .returned (.tuple #[.slice P nd c, .int .i64 0]) ∧ w'.ownsRow w13.heap.size 9 1 (.slice P nd c) nd (psE.fl (F1.dir.map (·.1))) ∧ Below w13.heap.size w13 w') := by
          have := List_any HG13.out HD.out
          rw [HND.out] at this
          exact this
        go_wp2_with fail
        refine (show Calls _ _ _ _ _ from HQ.out).mono ?_
        rintro e w14 ⟨P9, c9, rfl, ho9, hb9⟩
        have HL0 : Hid (Ls w w14 gl F1 (i + 1) nd (.slice P9 nd c9) 0 F1 Xg) := by
          refine ⟨HG13.out.on hb9, ⟨?_, fun q hq ho => ?_⟩, rfl, HD.out, fun x hx => by simp at hx⟩
          · have := own_zero' ho9
            rw [List.length_map, HND.out]
            exact this
          · have h1 := (World.ownsRow.lt ho9 q hq).1
            have h2 := HG13.out.fs.own_lt ho
            omega
        have HDL : Hid (nd ≤ 64) := by have := HG13.out.few.1; show _ ≤ _; rw [← HND.out]; exact this
        clear ho9 hb9 HQ HG13
        go_wp2
        go_loopw [11] (fun ci wr => ∃ (k : Nat) (Fg : Fs) (Xk : Gh), k ≤ nd ∧ ci = .int .i64 (k : Int) ∧ Ls w wr gl F1 (i + 1) nd (.slice P9 nd c9) k Fg Xk) (fun ci _ => nd - (intOf ci).toNat)
        case atStart => exact ⟨0, F1, Xg, Nat.zero_le _, rfl, HL0.out⟩
        case round =>
          obtain ⟨k, Fg, Xk, hk, rfl, hls⟩ := hrel
          have HLS : Hid (Ls w wr gl F1 (i + 1) nd (.slice P9 nd c9) k Fg Xk) := hls
          clear hls
          by_cases hlt : k < nd
          · have hkl : k < (F1.dir.map (·.1)).length := by rw [List.length_map, HND.out]; exact hlt
            obtain ⟨r9, o9, rfl, hcl⟩ := HLS.out.nm.cell hkl
            have hkd : k < Fg.dir.length := by rw [HLS.out.dir, HND.out]; exact hlt
            have hnm : (F1.dir.map (·.1))[k] = (Fg.dir[k]).1 := by
              have h1 := HLS.out.dir
              rw [List.getElem_map]
              simp only [h1]
            rw [hnm] at hcl
            obtain ⟨nm, hnn⟩ : ∃ nm, (Fg.dir[k]).1 = nm := ⟨_, rfl⟩
            have hns : nm.size ≤ 64 := by rw [← hnn]; exact (named_size (HLS.out.st.fs.ok.dir.nam _ (List.getElem_mem hkd))).2
            obtain ⟨F', r, hsm⟩ : ∃ F' r, syncM Fg nm = (F', r) := ⟨_, _, rfl⟩
            have HNX : Hid (r = 0 → F'.dir = F1.dir ∧ F'.down = false ∧ SyP F' (k + 1)) := fun hr => by
              have h0 : (syncM Fg (Fg.dir[k]).1).2 = 0 := by rw [hnn, hsm]; exact hr
              have := SyP.next HLS.out.st.fs.ok HLS.out.sy hkd h0
              rw [hnn, hsm] at this
              exact ⟨this.1.trans HLS.out.dir, this.2.1.trans HLS.out.up, this.2.2⟩
            have HQ : Hid (Calls Tryz.prog 17 #[.pointer (some ⟨gl, 0, none⟩), .string nm] wr fun e w' => BcP w wr gl Xk Fg F' r (i + 1 + k) e w') := by
              have := sync_bc HLS.out.st (by have := HIL.out; have := HDL.out; omega) nm hns
              rw [hsm] at this
              exact this
            rw [hnn] at hcl
            have hz5 : (0 : Int) ≤ (k : Int) := by omega
            have hz6 : (k : Int) < (nd : Int) := by omega
            have hkw : IntKind.i64.wrap ((k : Int) + 1) = (k : Int) + 1 := by have := HDL.out; rw [IntKind.wrap_i64] <;> omega
            clear hkl hkd hnm hnn hns hsm
            go_wp2_with fail
            refine (show Calls _ _ _ _ _ from HQ.out).mono ?_
            rintro e w15 ⟨rfl, X15, hs15, hB15⟩
            have HS15 : Hid (St w w15 gl X15 F' (i + 1 + k + 1)) := hs15
            have HN15 : Hid (NmR w15 gl X15 F' (.slice (some ⟨r9, o9, none⟩) nd c9) (F1.dir.map (·.1))) := HLS.out.nm.bec hB15
            clear hs15 hB15 HQ HLS hcl
            by_cases hr : r = 0
            · subst hr
              obtain ⟨n1, n2, n3⟩ := HNX.out rfl
              have HLN : Hid (Ls w w15 gl F1 (i + 1) nd (.slice (some ⟨r9, o9, none⟩) nd c9) (k + 1) F' X15) := ⟨HS15.out, HN15.out, n1, n2, n3⟩
              clear n1 n2 n3 HS15 HN15 HNX
              go_wp2
              go_roundw
              case rel => exact ⟨k + 1, _, _, hlt, rfl, HLN.out⟩
              case measure => simp [intOf]; omega
            · go_wp2
              go_returns
              exact ⟨rfl, HS15.out.bel⟩
          · have hkn : k = nd := by omega
            subst hkn
            clear hlt
            obtain ⟨F6, r, hsm⟩ : ∃ F' r, syncDirM Fg = (F', r) := ⟨_, _, rfl⟩
            have HNX : Hid (r = 0 → Tight F6 ∧ F6.down = false ∧ F6.dir = F1.dir) := fun hr => by
              have h1 : SyP Fg Fg.dir.length := by
                have := HLS.out.sy
                rw [HLS.out.dir, HND.out]
                exact this
              have h0 : (syncDirM Fg).2 = 0 := by rw [hsm]; exact hr
              have := SyP.tight h1 h0
              rw [hsm] at this
              exact ⟨this.1, this.2.1, this.2.2.trans HLS.out.dir⟩
            have HQ : Hid (Calls Tryz.prog 18 #[.pointer (some ⟨gl, 0, none⟩)] wr fun e w' => BcP w wr gl Xk Fg F6 r (i + 1 + k) e w') := by
              have := sdir_bc HLS.out.st (by have := HIL.out; have := HDL.out; omega)
              rw [hsm] at this
              exact this
            clear hsm
            go_wp2_with fail
            refine (show Calls _ _ _ _ _ from HQ.out).mono ?_
            rintro e w15 ⟨rfl, X15, hs15, _⟩
            have HS15 : Hid (St w w15 gl X15 F6 (i + 1 + k + 1)) := hs15
            clear hs15 HQ HLS
            by_cases hr : r = 0
            · subst hr
              have HTG : Hid (Tight F6) := (HNX.out rfl).1
              have HUP : Hid (F6.down = false) := (HNX.out rfl).2.1
              have HLD : Hid (F6.dir.length = k) := by show _ = _; rw [(HNX.out rfl).2.2, HND.out]
              have HF6 : Hid ((nowM F6).length ≤ 4611686018427387000) := by
                have := HDL.out
                show _ ≤ _
                rw [now_len, HLD.out]; omega
              clear HNX
              have HQ : Hid (Calls Tryz.prog 15 #[.pointer (some ⟨gl, 0, none⟩)] w15 fun e w' => NowP w15 (nowM F6) k e w') := now_st HS15.out HLD.out
              go_wp2_with fail
              refine (show Calls _ _ _ _ _ from HQ.out).mono ?_
              rintro e w16 ⟨P6, c6, rfl, hp6, hb16⟩
              have HP6 : Hid (PR w16 (.slice P6 k c6) (nowM F6)) := hp6
              have HS16 : Hid (St w w16 gl X15 F6 (i + 1 + k + 1)) := HS15.out.on hb16
              clear hp6 hb16 HS15
              clear HQ
              have HQ : Hid (Calls Tryz.prog 13 #[.pointer (some ⟨gl, 0, none⟩), .int .i64 0, .slice PP p.length pc] w16 fun e w' => BcP w w16 gl X15 F6 (downM F6 p) 0 (i + 1 + k + 1) e w') := crash_bc HS16.out (by have := HIL.out; have := HDL.out; omega) HUP.out HPL.out (pks_at HP.out HPB.out HS16.out)
              go_wp2_with fail
              refine (show Calls _ _ _ _ _ from HQ.out).mono ?_
              rintro e w17 ⟨rfl, X17, hs17, hB17⟩
              have HP7 : Hid (PR w17 (.slice P6 k c6) (nowM F6)) := HP6.out.mod HS16.out.fs.toFsC hB17.md
              have HS17 : Hid (St w w17 gl X17 (downM F6 p) (i + 1 + k + 1 + 1)) := hs17
              have HNW : Hid (nowM (downM F6 p) = nowM F6) := HTG.out.down HS16.out.fs.ok p
              have HSW : Hid (safeM (downM F6 p) = nowM F6) := (down_tight HS16.out.fs.ok HS16.out.sfile p).safe.trans HNW.out
              have HL7 : Hid ((downM F6 p).dir.length = k) := by show _ = _; rw [← now_len, HNW.out, now_len, HLD.out]
              have HL8 : Hid ((downM F6 p).sure.length = k) := HL7.out
              clear hs17 hB17 HP6 HS16
              clear HQ
              have HQ : Hid (Calls Tryz.prog 15 #[.pointer (some ⟨gl, 0, none⟩)] w17 fun e w' => NowP w17 (nowM (downM F6 p)) k e w') := now_st HS17.out HL7.out
              go_wp2_with fail
              refine (show Calls _ _ _ _ _ from HQ.out).mono ?_
              rintro e w18 ⟨P8, c8, rfl, hp8, hb18⟩
              have HP8 : Hid (PR w18 (.slice P8 k c8) (nowM F6)) := by
                show PR _ _ _
                rw [← HNW.out]; exact hp8
              have HP7b : Hid (PR w18 (.slice P6 k c6) (nowM F6)) := HP7.out.on hb18
              have HS18 : Hid (St w w18 gl X17 (downM F6 p) (i + 1 + k + 1 + 1)) := HS17.out.on hb18
              clear hp8 hb18 HS17 HP7
              clear HQ
              have HQ : Hid (Calls Tryz.prog 14 #[.slice P8 k c8, .slice P6 k c6] w18 fun e w' => e = .returned (.bool true) ∧ Below w18.heap.size w18 w') := same_st HF6.out HP8.out HP7b.out
              go_wp2_with fail
              refine (show Calls _ _ _ _ _ from HQ.out).mono ?_
              rintro e w19 ⟨rfl, hb19⟩
              have HP7c : Hid (PR w19 (.slice P6 k c6) (nowM F6)) := HP7b.out.on hb19
              have HS19 : Hid (St w w19 gl X17 (downM F6 p) (i + 1 + k + 1 + 1)) := HS18.out.on hb19
              clear hb19 HS18 HP7b HP8
              clear HQ
              have HQ : Hid (Calls Tryz.prog 11 #[.pointer (some ⟨gl, 0, none⟩)] w19 fun e w' => NowP w19 (safeM (downM F6 p)) k e w') := safe_st HS19.out HL8.out
              go_wp2_with fail
              refine (show Calls _ _ _ _ _ from HQ.out).mono ?_
              rintro e w20 ⟨P7, c7, rfl, hp7, hb20⟩
              have HP9 : Hid (PR w20 (.slice P7 k c7) (nowM F6)) := by
                show PR _ _ _
                rw [← HSW.out]; exact hp7
              have HP7d : Hid (PR w20 (.slice P6 k c6) (nowM F6)) := HP7c.out.on hb20
              have HS20 : Hid (St w w20 gl X17 (downM F6 p) (i + 1 + k + 1 + 1)) := HS19.out.on hb20
              clear hp7 hb20 HS19 HP7c
              clear HQ
              have HQ : Hid (Calls Tryz.prog 14 #[.slice P7 k c7, .slice P6 k c6] w20 fun e w' => e = .returned (.bool true) ∧ Below w20.heap.size w20 w') := same_st HF6.out HP9.out HP7d.out
              go_wp2_with fail
              refine (show Calls _ _ _ _ _ from HQ.out).mono ?_
              rintro e w21 ⟨rfl, hb21⟩
              have HFIN : Hid (Below w.heap.size w w21) := (HS20.out.on hb21).bel
              clear hb21 HS20 HP7d HP9
              clear HQ
              go_wp2
              go_returns
              exact ⟨rfl, HFIN.out⟩
            · go_wp2
              go_returns
              exact ⟨rfl, HS15.out.bel⟩
end Go.Proofs.YtencjopnbmbhkaaGreat
