import Derived.Test.YtlheilkofibogaaGreatQBI
import Derived.Test.YtlheilkofibogaaGreatQAE
import Derived.Test.YtlheilkofibogaaGreatQBE
namespace Go.Proofs.YtlheilkofibogaaGreat
open Go.RowKit Go.Maps
set_option linter.unusedVariables false
set_option linter.unusedSimpArgs false
/-- What a call of one file system comes to, its blocks told. -/
def BcP (w0 W : World) (g : Nat) (X : Gh) (F F' : Fs) (r : Int) (i : Nat) (e : Ending) (w' : World) : Prop := e = .returned (.int .i64 r) ∧ ∃ X', St w0 w' g X' F' (i + 1) ∧ Bec W g X F w' X' F'
theorem bc_of {w0 W : World} {g i : Nat} {X : Gh} {F F' : Fs} {r : Int} {e : Ending} {w' : World} (h : St w0 W g X F i) (hg : GrowP 17592186044416 F F') (he : e = .returned (.int .i64 r)) (hB : ∃ X', Bec W g X F w' X' F') : BcP w0 W g X F F' r i e w' := by
  obtain ⟨X', hB⟩ := hB
  have g1 := hg.st
  have g2 := hg.fi
  have g3 := hg.ch
  have hst := h.st
  have hfi := h.fi
  have hch := h.ch
  exact ⟨he, X', ⟨h.toWk.step hB, by omega, by omega, by omega, hg.pk h.pk⟩, hB⟩
theorem St.sm {w0 W : World} {g i : Nat} {X : Gh} {F : Fs} (h : St w0 W g X F i) (hi : i < 3298534883328) : Sm F X := by
  have hst := h.st
  have hfi := h.fi
  have hch := h.ch
  have hq := h.q
  exact ⟨by omega, by omega, by omega, by omega⟩
theorem sync_bc {w0 W : World} {g i : Nat} {X : Gh} {F : Fs} (h : St w0 W g X F i) (hi : i < 3298534883328) (n : ByteArray) (hn : n.size ≤ 64) : Calls Tryz.prog 17 #[ptr (some g), .string n] W fun e w' => BcP w0 W g X F (syncM F n).1 (syncM F n).2 i e w' :=
  (Sync_any goDownC g X F n (by omega) W h.fs (h.sm hi) (by have := h.st; omega) h.pk).mono fun e w' hh => bc_of h (syncM_gp _ F n) hh.1 hh.2
theorem sdir_bc {w0 W : World} {g i : Nat} {X : Gh} {F : Fs} (h : St w0 W g X F i) (hi : i < 3298534883328) : Calls Tryz.prog 18 #[ptr (some g)] W fun e w' => BcP w0 W g X F (syncDirM F).1 (syncDirM F).2 i e w' :=
  (SyncDir_any goDownC g X F W h.fs (h.sm hi) (by have := h.st; omega) h.pk).mono fun e w' hh => bc_of h (syncDirM_gp _ F) hh.1 hh.2
theorem start_bc {w0 W : World} {g i : Nat} {X : Gh} {F : Fs} (h : St w0 W g X F i) : Calls Tryz.prog 23 #[ptr (some g)] W fun e w' => BcP w0 W g X F (startM F).1 (startM F).2 i e w' :=
  (Start_any g X F W h.fs).mono fun e w' hh => bc_of h (startM_gp _ F) hh.1 ⟨X, hh.2⟩
theorem crash_bc {w0 W : World} {g i : Nat} {X : Gh} {F : Fs} {p : List Int} {pv : Value} (h : St w0 W g X F i) (hi : i < 3298534883328) (hu : F.down = false) (hp : p.length ≤ 17592186044416) (hv : Pks W (Own g F X) pv p) : Calls Tryz.prog 21 #[ptr (some g), .int .i64 0, pv] W fun e w' => BcP w0 W g X F (downM F p) 0 i e w' := by
  have hM : crashM F 0 p = (downM F p, 0) := by
    unfold crashM; rw [hu, if_neg (by decide), if_neg (by omega), if_pos rfl]
  have := Crash_any g X F 0 pv p hp W h.fs (h.sm hi) hv
  rw [hM] at this
  exact this.mono fun e w' hh => bc_of h (down_gp _ F p) hh.1 hh.2
/-- Another file system, apart, is left alone. -/
theorem St.aside {w0 W W' : World} {g gl i j k : Nat} {X X' Xg : Gh} {F F' Fg : Fs} (hf : St w0 W g X F i) (hf' : St w0 W' g X' F' k) (hb : Bec W g X F W' X' F') (hg : St w0 W gl Xg Fg j) (hd : ∀ q, Own gl Fg Xg q → ¬ Own g F X q) : St w0 W' gl Xg Fg j ∧ ∀ q, Own gl Fg Xg q → ¬ Own g F' X' q := by
  refine ⟨⟨⟨hg.fs.mod hb.md (fun q hq ho => hd q ho hq) (fun q cs t fz hq hc => hf.fs.own_ty hq hc), hg.q, hf'.bel, hg.own⟩, hg.st, hg.fi, hg.ch, hg.pk⟩, fun q ho hq => ?_⟩
  rcases hb.own q hq with h1 | h1
  · exact hd q ho h1
  · have := hg.fs.own_lt ho
    omega
theorem clone_st {w0 W : World} {g i : Nat} {X : Gh} {F : Fs} (h : St w0 W g X F i) (hi : i < 3298534883328) : Calls Tryz.prog 9 #[ptr (some g)] W fun e w' => ∃ gl Xg, e = .returned (ptr (some gl)) ∧ St w0 w' gl Xg F i ∧ St w0 w' g X F i ∧ (∀ q, Own gl F Xg q → ¬ Own g F X q) ∧ Below W.heap.size W w' := by
  refine (Clone_any g X F W h.fs (h.sm hi)).mono ?_
  rintro e w' ⟨gl, Xg, rfl, h1, h2, h3, h4⟩
  have hb : Below W.heap.size W w' := ⟨h2.os, h2.tape, h2.output, h2.size, fun q hq => h2.oth q hq (fun e => e)⟩
  have hg := h.on hb
  refine ⟨gl, Xg, rfl, ⟨⟨h1, by rw [h4]; exact h.q, hg.bel, fun q hq => by have := h3 q hq; have := h.bel.size; omega⟩, h.st, h.fi, h.ch, h.pk⟩, hg, fun q hq ho => ?_, hb⟩
  have := h3 q hq
  have := h.fs.own_lt ho
  omega
/-- A row of names of its own, apart from a file system. -/
structure NmR (W : World) (g : Nat) (X : Gh) (F : Fs) (v : Value) (L : List ByteArray) : Prop where
  ro : W.ownsRow 0 9 1 v L.length (psE.fl L)
  ap : ∀ q, v.ownBlock = some q → ¬ Own g F X q
theorem NmR.bec {W W' : World} {g : Nat} {X X' : Gh} {F F' : Fs} {v : Value} {L : List ByteArray} (h : NmR W g X F v L) (hb : Bec W g X F W' X' F') : NmR W' g X' F' v L := by
  refine ⟨own_to h.ro (fun q hq => ?_), fun q hq ho => ?_⟩
  · obtain ⟨cu, hc⟩ := own_type h.ro hq
    exact hb.md.oth q (row_lt hc) (h.ap q hq)
  · obtain ⟨cu, hc⟩ := own_type h.ro hq
    have := row_lt hc
    rcases hb.own q ho with h1 | h1
    · exact h.ap q hq h1
    · omega
theorem NmR.cell {W : World} {g : Nat} {X : Gh} {F : Fs} {P : Option Addr} {n c k : Nat} {L : List ByteArray} (h : NmR W g X F (.slice P n c) L) (hk : k < L.length) : ∃ r o, P = some ⟨r, o, none⟩ ∧ W.cell? ⟨r, o + k, none⟩ = some (.string L[k]) := by
  obtain ⟨r, o, c', e, hc⟩ := (KR.own (E := psE) h.ro rfl).cell psOk hk
  have h0 := hc 0 (.string L[k]) rfl
  injection e with e1 _ _
  have hk1 : psE.k = 1 := rfl
  rw [hk1, Nat.mul_one, Nat.add_zero] at h0
  exact ⟨r, o, e1, h0⟩
/-- As long as nothing falls. -/
theorem upStart (F : Fs) : (startM F).1.down = false := by
  unfold startM
  cases h : F.down with
  | true => rfl
  | false => simpa using h
theorem St.sfile {w0 W : World} {g i : Nat} {X : Gh} {F : Fs} (h : St w0 W g X F i) : ∀ j, j ≤ F.chg.length → ∀ x ∈ dirK F j, (fileAt F x.2.toNat).s ≤ (fileAt F x.2.toNat).d.size := fun j hj x hx => (h.fs.file (dirK_live (X := X) h.fs.ok j hj x hx)).sf
end Go.Proofs.YtlheilkofibogaaGreat
namespace Go.Proofs.YtlheilkofibogaaGreat
open Go.RowKit Go.Maps
set_option linter.unusedVariables false
set_option linter.unusedSimpArgs false
theorem KR.modP {α : Type} {E : ET α} {S : Nat → Prop} {w w' : World} {v : Value} {l : List α} (h : KR E w v l) (hm : ModP S w w') (hn : l ≠ [] → NB S v) : KR E w' v l := by
  by_cases hl : l = []
  · subst hl
    rcases h with h | ⟨g, o, cap, rfl, hc⟩
    · exact Or.inl h
    · exact Or.inr ⟨g, o, cap, rfl, fun j u hu => by simp [ET.fl] at hu⟩
  · rcases h with ⟨h, _⟩ | ⟨g, o, cap, rfl, hc⟩
    · exact absurd h hl
    · refine Or.inr ⟨g, o, cap, rfl, fun j u hu => ?_⟩
      have h1 := hc j u hu
      have h2 := hm.oth g (lt_of_cell h1) (hn hl g o _ _ rfl)
      rw [← h1]
      unfold World.cell?
      simp only [h2]
theorem FsAt.modP {s : Fs} {V : FV} {S : Nat → Prop} {w w' : World} (h : FsAt s V w) (hm : ModP S w w') (ha : Av S s V) : FsAt s V w' := ⟨h.qf.modP hm ha.af, h.qd.modP hm ha.ad, h.qs.modP hm ha.as_, h.qc.modP hm ha.ac, h.qp.modP hm ha.ap, h.qk.modP hm ha.ak⟩
theorem NB.or {S S' T : Nat → Prop} {v : Value} (h : NB S v) (k : NB S' v) (hs : ∀ q, T q → S q ∨ S' q) : NB T v := fun g o n c e hT => by
  rcases hs g hT with h1 | h1
  · exact h g o n c e h1
  · exact k g o n c e h1
theorem Av.or {S S' T : Nat → Prop} {s : Fs} {V : FV} (h : Av S s V) (k : Av S' s V) (hs : ∀ q, T q → S q ∨ S' q) : Av T s V := ⟨fun q => (h.af q).or (k.af q) hs, fun q => (h.ad q).or (k.ad q) hs, fun q => (h.as_ q).or (k.as_ q) hs, fun q => (h.ac q).or (k.ac q) hs, fun q => (h.ap q).or (k.ap q) hs, fun q => (h.ak q).or (k.ak q) hs⟩
theorem dirAt_few {w0 W : World} {g i : Nat} {X : Gh} {F : Fs} (h : St w0 W g X F i) (k : Nat) : (dirAt F k).length ≤ 64 := by
  by_cases hk : k ≤ F.chg.length
  · exact (h.fs.ok.dirs k hk).few
  · have : dirAt F k = dirK F F.chg.length := by
      unfold dirAt dirK
      rw [List.take_of_length_le (Nat.le_refl _), List.take_of_length_le (by omega)]
    rw [this]
    exact (h.fs.ok.dirs _ (Nat.le_refl _)).few
theorem bd_of {w0 W : World} {g i : Nat} {X : Gh} {F : Fs} (h : St w0 W g X F i) (iv : Iv F i) (hi : i ≤ 3298534883000) : Bd F := by
  have h1 := h.st
  have h2 := h.fi
  have h3 := h.ch
  have h4 := iv.fl
  have h5 := h.few.1
  exact ⟨by omega, by omega, by omega, by omega, by omega, fun k => by have := dirAt_few h k; omega, iv.fz⟩
theorem find_lt {w0 W : World} {g i : Nat} {X : Gh} {F : Fs} (h : St w0 W g X F i) (n : ByteArray) : findM F.dir n < (F.files.length : Int) := by
  by_cases hf : findM F.dir n < 0
  · omega
  · obtain ⟨x, hx, _, e⟩ := findM_mem hf
    have := h.fs.ok.dir.lt x hx
    omega
/-- The program's file system and the document's: the same state, apart. -/
structure Dv (w0 W : World) (g : Nat) (X : Gh) (F : Fs) (i : Nat) (Fd : Fs) (V : FV) : Prop where
  st : St w0 W g X F i
  dc : FsAt Fd V W
  av : Av (Own g F X) Fd V
theorem Dv.on {w0 W W' : World} {g i : Nat} {X : Gh} {F Fd : Fs} {V : FV} (h : Dv w0 W g X F i Fd V) (hb : Below W.heap.size W W') : Dv w0 W' g X F i Fd V := ⟨h.st.on hb, h.dc.on hb, h.av⟩
/-- A call of the program. -/
theorem Dv.bec {w0 W W' : World} {g i k : Nat} {X X' : Gh} {F F' Fd : Fs} {V : FV} (h : Dv w0 W g X F i Fd V) (hs : St w0 W' g X' F' k) (hb : Bec W g X F W' X' F') : Dv w0 W' g X' F' k Fd V :=
  ⟨hs, h.dc.modP hb.md h.av, h.av.or h.dc.av (fun q hq => hb.own q hq)⟩
/-- A call of the document. -/
theorem Dv.made {w0 W W' : World} {g i : Nat} {X : Gh} {F Fd Fd' : Fs} {V V' : FV} (h : Dv w0 W g X F i Fd V) (hM : Made Fd V W Fd' V' W') : Dv w0 W' g X F i Fd' V' :=
  ⟨h.st.on hM.bel, hM.at_, hM.av _ (fun k hk => h.st.fs.own_lt hk) h.av⟩
/-- A clone takes the first one's place. -/
theorem Dv.clone {w0 W W' : World} {g gl i : Nat} {X Xg : Gh} {F Fd : Fs} {V : FV} (h : Dv w0 W g X F i Fd V) (hs : St w0 W' gl Xg F i) (hb : Below W.heap.size W W') (hn : ∀ q, Own gl F Xg q → W.heap.size ≤ q) : Dv w0 W' gl Xg F i Fd V :=
  ⟨hs, h.dc.on hb, h.dc.av.weak hn⟩
end Go.Proofs.YtlheilkofibogaaGreat
namespace Go.Proofs.YtlheilkofibogaaGreat
open Go.RowKit Go.Maps
set_option linter.unusedVariables false
set_option linter.unusedSimpArgs false
theorem done_bc {w0 W : World} {g i : Nat} {X : Gh} {F : Fs} {o : Po} {pv : Value} {C : Array Value} (h : St w0 W g X F i) (hi : i < 3298534883328) (hC : C = opArr o pv) (ok : PoOk o) (hv : Pks W (Own g F X) pv o.p) :
    Calls Tryz.prog 10 #[ptr (some g), .agg C] W fun e w' => BcP w0 W g X F (doneM F o).1 (doneM F o).2 i e w' := by
  subst hC
  refine Calls.mono (done_any g X F o ok pv W h.fs (h.sm hi) (by have := h.st; omega) (by have := h.fi; omega) h.pk hv) ?_
  rintro e w' ⟨he, hB⟩
  exact bc_of h (done_gp _ F o ok.p) he hB
/-- Behind a call of the program: it is one ahead. -/
theorem done_dv {w0 W : World} {g i : Nat} {X : Gh} {F Fd : Fs} {V : FV} {o : Po} {pv : Value} {C : Array Value} (h : Dv w0 W g X F i Fd V) (hi : i < 3298534883328) (hC : C = opArr o pv) (ok : PoOk o) (hv : Pks W (Own g F X) pv o.p) :
    Calls Tryz.prog 10 #[ptr (some g), .agg C] W fun e w' => e = .returned (.int .i64 (doneM F o).2) ∧ ∃ X', Dv w0 w' g X' (doneM F o).1 (i + 1) Fd V ∧ Bec W g X F w' X' (doneM F o).1 := by
  refine (done_bc h.st hi hC ok hv).mono ?_
  rintro e w' ⟨rfl, X', hs, hB⟩
  exact ⟨rfl, X', h.bec hs hB, hB⟩
theorem clone_dv {w0 W : World} {g i : Nat} {X : Gh} {F Fd : Fs} {V : FV} (h : Dv w0 W g X F i Fd V) (hi : i < 3298534883328) : Calls Tryz.prog 9 #[ptr (some g)] W fun e w' => ∃ gl Xg, e = .returned (ptr (some gl)) ∧ Dv w0 w' gl Xg F i Fd V ∧ Below W.heap.size W w' := by
  refine (Clone_any g X F W h.st.fs (h.st.sm hi)).mono ?_
  rintro e w' ⟨gl, Xg, rfl, h1, h2, h3, h4⟩
  have hb : Below W.heap.size W w' := ⟨h2.os, h2.tape, h2.output, h2.size, fun q hq => h2.oth q hq (fun e => e)⟩
  have hg := h.st.on hb
  exact ⟨gl, Xg, rfl, h.clone ⟨⟨h1, by rw [h4]; exact h.st.q, hg.bel, fun q hq => by have := h3 q hq; have := h.st.bel.size; omega⟩, h.st.st, h.st.fi, h.st.ch, h.st.pk⟩ hb h3, hb⟩
end Go.Proofs.YtlheilkofibogaaGreat
