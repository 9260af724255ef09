import Derived.Test.YtcnicdcjdieodabDoorRefR
import Derived.Deep.RegionHeld3
import Derived.Deep.DeepCutAuto
namespace Go.Proofs.YtcnicdcjdieodabDoor
open Go.RowKit Vi
set_option linter.unusedVariables false

/-- the document's reader's block. -/
def Dd (w : World) (b : Nat) (s : ByteArray) (a : Nat) : Prop := w.heap[b]? = some (.cells #[.string s, .int .i64 (a : Int)] 26)
theorem Dd.data {w : World} {b : Nat} {s : ByteArray} {a : Nat} (h : Dd w b s a) : w.cell? ⟨b, 0, none⟩ = some (.string s) := by
  rw [cell_of_row _ _ _ _ _ _ h]; rfl
theorem Dd.pos {w : World} {b : Nat} {s : ByteArray} {a : Nat} (h : Dd w b s a) : w.cell? ⟨b, 1, none⟩ = some (.int .i64 (a : Int)) := by
  rw [cell_of_row _ _ _ _ _ _ h]; rfl
theorem Dd.free {w : World} {b : Nat} {s : ByteArray} {a : Nat} (h : Dd w b s a) (o : Nat) : w.frozen? ⟨b, o, none⟩ = false := frozen_of_row _ _ _ _ _ h
theorem blk_lt {w : World} {b : Nat} {o : Obj} (h : w.heap[b]? = some o) : b < w.heap.size := by
  rcases Nat.lt_or_ge b w.heap.size with h' | h'
  · exact h'
  · rw [Array.getElem?_eq_none h'] at h; cases h
/-- how the two stand in a round. -/
structure Both (w wr : World) (s : ByteArray) (a : Nat) : Prop where
  le : a ≤ s.size
  rd : Rd wr w.heap.size s a
  dd : Dd wr (w.heap.size + 1) s a
  bel : Below w.heap.size w wr
theorem Rd.drew {w : World} {b : Nat} {s : ByteArray} {a : Nat} (h : Rd w b s a) (n : Nat) : Rd (w.drewN n) b s a := h
theorem alloc_row {w : World} {b : Nat} {x : Obj} (h : w.heap[b]? = some x) (o : Obj) : (w.alloc o).heap[b]? = some x := by
  rw [heap_alloc_old _ _ (blk_lt h)]; exact h
theorem cell_lt {w : World} {b o : Nat} {x : Value} (h : w.cell? ⟨b, o, none⟩ = some x) : b < w.heap.size := by
  rcases Nat.lt_or_ge b w.heap.size with h' | h'
  · exact h'
  · simp [World.cell?, Array.getElem?_eq_none h'] at h
theorem old_cell {w : World} {b p : Nat} {x : Value} (h : w.cell? ⟨b, p, none⟩ = some x) (o : Obj) : (w.alloc o).cell? ⟨b, p, none⟩ = some x := by
  have hb : Below w.heap.size w (w.alloc o) := (Below.refl _ _).alloc (Nat.le_refl _) _
  rw [hb.cell (p := ⟨b, p, none⟩) (cell_lt h)]; exact h
theorem set_other {w : World} {b p c q : Nat} {x v : Value} (h : w.cell? ⟨b, p, none⟩ = some x) (hne : b ≠ c) : (w.setCell ⟨c, q, none⟩ v).cell? ⟨b, p, none⟩ = some x := by
  rw [World.cell?_setCell_other _ _ _ _ (by intro e; injection e with e1; exact hne e1.symm)]; exact h
theorem k3_alloc {w : World} {D g p : Nat} {x y z : Value} (h : (w).cell? ⟨D, 0, none⟩ = some x ∧ (w).cell? ⟨D, 1, none⟩ = some y ∧ (w).cell? ⟨g, p, none⟩ = some z) (o : Obj) : (w.alloc o).cell? ⟨D, 0, none⟩ = some x ∧ (w.alloc o).cell? ⟨D, 1, none⟩ = some y ∧ (w.alloc o).cell? ⟨g, p, none⟩ = some z := ⟨old_cell h.1 o, old_cell h.2.1 o, old_cell h.2.2 o⟩
theorem k3_drew {w : World} {D g p : Nat} {x y z : Value} (h : (w).cell? ⟨D, 0, none⟩ = some x ∧ (w).cell? ⟨D, 1, none⟩ = some y ∧ (w).cell? ⟨g, p, none⟩ = some z) : (w.drew).cell? ⟨D, 0, none⟩ = some x ∧ (w.drew).cell? ⟨D, 1, none⟩ = some y ∧ (w.drew).cell? ⟨g, p, none⟩ = some z := h
theorem k3_allocd {w : World} {D g p : Nat} {x y z : Value} (h : (w).cell? ⟨D, 0, none⟩ = some x ∧ (w).cell? ⟨D, 1, none⟩ = some y ∧ (w).cell? ⟨g, p, none⟩ = some z) (o : Obj) : ((w.alloc o).drew).cell? ⟨D, 0, none⟩ = some x ∧ ((w.alloc o).drew).cell? ⟨D, 1, none⟩ = some y ∧ ((w.alloc o).drew).cell? ⟨g, p, none⟩ = some z := k3_alloc h o
theorem k3_set {w : World} {D g p : Nat} {x y z : Value} (h : (w).cell? ⟨D, 0, none⟩ = some x ∧ (w).cell? ⟨D, 1, none⟩ = some y ∧ (w).cell? ⟨g, p, none⟩ = some z) {c : Nat} (h1 : D ≠ c) (h2 : g ≠ c) (q r : Nat) (u v : Value) : ((w.setCell ⟨c, q, none⟩ u).setCell ⟨c, r, none⟩ v).cell? ⟨D, 0, none⟩ = some x ∧ ((w.setCell ⟨c, q, none⟩ u).setCell ⟨c, r, none⟩ v).cell? ⟨D, 1, none⟩ = some y ∧ ((w.setCell ⟨c, q, none⟩ u).setCell ⟨c, r, none⟩ v).cell? ⟨g, p, none⟩ = some z :=
  ⟨set_other (set_other h.1 h1) h1, set_other (set_other h.2.1 h1) h1, set_other (set_other h.2.2 h2) h2⟩
theorem new_rows {w wB : World} {o : Obj} (hb : Below ((w.alloc o).drew).heap.size ((w.alloc o).drew) wB) : wB.heap[w.heap.size]? = some o := (hb.block _ (by simp)).trans (heap_alloc_new _ _)
theorem set_row {w : World} {b c p q : Nat} {x : Obj} {u v : Value} (h : w.heap[b]? = some x) (hne : b ≠ c) : ((w.setCell ⟨c, p, none⟩ u).setCell ⟨c, q, none⟩ v).heap[b]? = some x := by
  rw [heap_setCell_other _ _ _ _ hne, heap_setCell_other _ _ _ _ hne]; exact h
theorem row2 {w : World} {b : Nat} {x y : Value} {t : TypeId} (h : w.heap[b]? = some (.cells #[x, y] t)) : w.cell? ⟨b, 0, none⟩ = some x ∧ w.cell? ⟨b, 1, none⟩ = some y ∧ ∀ o, w.frozen? ⟨b, o, none⟩ = false :=
  ⟨by rw [cell_of_row _ _ _ _ _ _ h]; rfl, by rw [cell_of_row _ _ _ _ _ _ h]; rfl, fun o => frozen_of_row _ _ _ _ _ h⟩
theorem set_two {w : World} {c : Nat} {x y : Value} {t : TypeId} (h : w.heap[c]? = some (.cells #[x, y] t)) (u v : Value) : ((w.setCell ⟨c, 0, none⟩ u).setCell ⟨c, 1, none⟩ v).heap[c]? = some (.cells #[u, v] t) := by
  rw [heap_setCell_same _ _ _ _ _ _ (heap_setCell_same _ _ _ _ _ _ h)]; rfl
theorem next0_rd {wB : World} {R D : Nat} {s : ByteArray} {a' : Nat} (hne : R ≠ D) (hr : Rd wB R s a') (x : Int) : Rd ((wB.setCell ⟨D, 0, none⟩ (.string s)).setCell ⟨D, 1, none⟩ (.int .i64 x)) R s a' := by
  show _ = _
  rw [heap_setCell_other _ _ _ _ hne, heap_setCell_other _ _ _ _ hne]
  exact hr
theorem next0_dd {wB : World} {D : Nat} {s : ByteArray} {a a' : Nat} (hd : Dd wB D s a) (x : Int) (hx : x = (a' : Int)) : Dd ((wB.setCell ⟨D, 0, none⟩ (.string s)).setCell ⟨D, 1, none⟩ (.int .i64 x)) D s a' := by
  subst hx
  show _ = _
  rw [heap_setCell_same _ _ _ _ _ _ (heap_setCell_same _ _ _ _ _ _ hd)]
  rfl
theorem Both.next0 {w wB : World} {s : ByteArray} {a a' : Nat} (le : a' ≤ s.size) (hr : Rd wB w.heap.size s a') (hd : Dd wB (w.heap.size + 1) s a) (hb : Below w.heap.size w wB) (x : Int) (hx : x = (a' : Int)) (n : Nat) :
    Both w (((wB.setCell ⟨w.heap.size + 1, 0, none⟩ (.string s)).setCell ⟨w.heap.size + 1, 1, none⟩ (.int .i64 x)).drewN n) s a' :=
  ⟨le, next0_rd (by omega) hr x, next0_dd hd x hx, ((hb.setCell (by show _ ≤ w.heap.size + 1; omega) _).setCell (by show _ ≤ w.heap.size + 1; omega) _).trans ⟨rfl, rfl, rfl, Nat.le_refl _, fun _ _ => rfl⟩⟩
/-- behind 'd = next'. -/
def nextW (wB : World) (D : Nat) (s : ByteArray) (x : Int) (o : Obj) : World := (((wB.setCell ⟨D, 0, none⟩ (.string s)).setCell ⟨D, 1, none⟩ (.int .i64 x)).alloc o)
theorem next_rd {wB : World} {R D : Nat} {s : ByteArray} {a' : Nat} (hne : R ≠ D) (hr : Rd wB R s a') (x : Int) (o : Obj) : Rd (((wB.setCell ⟨D, 0, none⟩ (.string s)).setCell ⟨D, 1, none⟩ (.int .i64 x)).alloc o) R s a' := by
  show _ = _
  rw [heap_alloc_old _ _ (by rw [World.size_setCell, World.size_setCell]; exact blk_lt hr), heap_setCell_other _ _ _ _ hne, heap_setCell_other _ _ _ _ hne]
  exact hr
theorem next_dd {wB : World} {D : Nat} {s : ByteArray} {a a' : Nat} (hd : Dd wB D s a) (x : Int) (hx : x = (a' : Int)) (o : Obj) : Dd (((wB.setCell ⟨D, 0, none⟩ (.string s)).setCell ⟨D, 1, none⟩ (.int .i64 x)).alloc o) D s a' := by
  subst hx
  show _ = _
  rw [heap_alloc_old _ _ (by rw [World.size_setCell, World.size_setCell]; exact blk_lt hd), heap_setCell_same _ _ _ _ _ _ (heap_setCell_same _ _ _ _ _ _ hd)]
  rfl
theorem next_pos {wB : World} {D : Nat} {s : ByteArray} {a : Nat} (hd : Dd wB D s a) (x : Int) : ((wB.setCell ⟨D, 0, none⟩ (.string s)).setCell ⟨D, 1, none⟩ (.int .i64 x)).cell? ⟨D, 1, none⟩ = some (.int .i64 x) := by
  rw [cell_of_row _ _ _ _ _ _ (heap_setCell_same _ _ _ _ _ _ (heap_setCell_same _ _ _ _ _ _ hd))]
  rfl
theorem Both.next {w wB : World} {s : ByteArray} {a a' : Nat} (le : a' ≤ s.size) (hr : Rd wB w.heap.size s a') (hd : Dd wB (w.heap.size + 1) s a) (hb : Below w.heap.size w wB) (x : Int) (hx : x = (a' : Int)) (o : Obj) (n : Nat) :
    Both w ((((wB.setCell ⟨w.heap.size + 1, 0, none⟩ (.string s)).setCell ⟨w.heap.size + 1, 1, none⟩ (.int .i64 x)).alloc o).drewN n) s a' :=
  ⟨le, next_rd (by omega) hr x o, next_dd hd x hx o, (((hb.setCell (by show _ ≤ w.heap.size + 1; omega) _).setCell (by show _ ≤ w.heap.size + 1; omega) _).alloc (by rw [World.size_setCell, World.size_setCell]; exact hb.size) _).trans ⟨rfl, rfl, rfl, Nat.le_refl _, fun _ _ => rfl⟩⟩
set_option maxHeartbeats 16000000 in
set_option maxRecDepth 20000 in
theorem reader_walk (s : ByteArray) (hm : s.size ≤ 140737488351232) (ad : Option Addr) (g off len cap : Nat) (K N : Nat → Int) (w : World) (hL : Laid w) (had : len ≠ 0 → ad = some ⟨g, off, none⟩) (hg : len ≠ 0 → g < w.heap.size) (hlen : len ≤ 140737488351232)
    (hK : ∀ i, i < len → w.cell? ⟨g, off + i * 2, none⟩ = some (.int .i64 (K i))) (hN : ∀ i, i < len → w.cell? ⟨g, off + i * 2 + 1, none⟩ = some (.int .i64 (N i))) (hNr : ∀ i, i < len → N i ≤ 9223372036854775807 ∧ -9223372036854775808 ≤ N i) :
    Calls Tryd.prog 3 #[.string s, .slice ad len cap] w fun e w' => e = .returned (.bool true) ∧ Below w.heap.size w w' := by
  have hmL : s.size ≤ maxLen := by unfold maxLen; omega
  have hm8 : s.size ≤ 281474976710656 := by omega
  have HL : Hid (Laid w) := hL
  have HK : Hid _ := hK
  have HN : Hid _ := hN
  have HNr : Hid _ := hNr
  have HAd : Hid _ := had
  have HG : Hid _ := hg
  clear hL hK hN hNr had hg
  go_enter Tryd.func3, Tryd.ntmps3
  go_wp2_with fail
  refine (newReader_any s _).mono ?_
  rintro e w1 ⟨rfl, rfl⟩
  go_wp2_with fail
  refine (works_any _ (HL.out.on (((Below.refl _ _).alloc (Nat.le_refl _) _).alloc (by simp) _))).mono ?_
  rintro e w2 ⟨rfl, hb2⟩
  have hB : Both w w2 s 0 := ⟨by omega, (hb2.block _ (by simp; omega)).trans (heap_alloc2_old _ _ _), (hb2.block _ (by simp)).trans (heap_alloc2_new _ _ _), (((Below.refl _ _).alloc (Nat.le_refl _) _).alloc (by simp) _).trans (hb2.mono (by simp; omega))⟩
  clear hb2
  go_wp2
  go_loopw [7, 8] (fun i _ wr => ∃ k a : Nat, k ≤ len ∧ i = .int .i64 k ∧ Both w wr s a) (fun i _ _ => len - (intOf i).toNat)
  case atStart => exact ⟨0, 0, by omega, rfl, hB⟩
  case round =>
    clear hB
    obtain ⟨k, a, hk, rfl, hB⟩ := hrel
    by_cases hlt : k < len
    · have had := HAd.out (by omega)
      subst had
      have hg := HG.out (by omega)
      have hk0 := (bcell hB.bel).1 g (off + k * 2) hg
      rw [HK.out k hlt] at hk0
      have hk1 := (bcell hB.bel).1 g (off + k * 2 + 1) hg
      rw [HN.out k hlt] at hk1
      generalize K k = kk at *
      generalize hnn : N k = nn at hk1
      by_cases c0 : kk = 0
      · subst c0
        by_cases ca : a < s.size
        · go_wp2_with fail
          refine (byte_ok _ s a ca hmL _ hB.rd).mono ?_
          rintro e wA ⟨rfl, hmv⟩
          have hdA : Dd wA (w.heap.size + 1) s a := (hmv.other _ (by omega)).trans hB.dd
          have hd0 := hdA.data
          have hd1 := hdA.pos
          have hbA := hB.bel.trans (hmv.below (Nat.le_refl _))
          go_wp2_with fail
          refine (refByte_ok s a hm8 ca _).mono ?_
          rintro e wB ⟨rfl, hbB⟩
          have hdB : Dd wB (w.heap.size + 1) s a := (hbB.block _ (blk_lt hdA)).trans hdA
          have hrB : Rd wB w.heap.size s (a + 1) := (hbB.block _ (blk_lt hmv.rd)).trans hmv.rd
          have hbW := hbA.trans (hbB.mono hbA.size)
          have e0 := hdB.data
          have e1 := hdB.pos
          have f0 := hdB.free 0
          have f1 := hdB.free 1
          have hzB := blk_lt hdB
          have hset := next_pos hdB
          clear hd0 hd1 hdA
          go_wp2
          go_quiet ((first | (go_at_call 14; exact Calls.quiet_of_same (at_any _ _ _ _ (Rd.drew (next_rd (by omega) hrB _ _) _))) | (go_at_call 15; exact Calls.quiet_of (left_any _ s (a + 1) (by omega) hmL _ (Rd.drew (next_rd (by omega) hrB _ _) _)))))
          go_wp2
          go_roundw
          case rel => exact ⟨k + 1, a + 1, by omega, by go_num, Both.next (by omega) hrB hdB hbW _ (by go_num) _ _⟩
          case measure => simp [intOf]; omega
        · have hae : a = s.size := by have := hB.le; omega
          subst hae
          go_wp2_with fail
          refine (byte_end _ s hmL _ hB.rd).mono ?_
          rintro e wA ⟨rfl, hmv⟩
          have hdA : Dd wA (w.heap.size + 1) s s.size := (hmv.other _ (by omega)).trans hB.dd
          have hd0 := hdA.data
          have hd1 := hdA.pos
          have hbA := hB.bel.trans (hmv.below (Nat.le_refl _))
          go_wp2_with fail
          refine (refByte_end s hm8 _).mono ?_
          rintro e wB ⟨rfl, hbB⟩
          have hdB : Dd wB (w.heap.size + 1) s s.size := (hbB.block _ (blk_lt hdA)).trans hdA
          have hrB : Rd wB w.heap.size s (s.size) := (hbB.block _ (blk_lt hmv.rd)).trans hmv.rd
          have hbW := hbA.trans (hbB.mono hbA.size)
          have e0 := hdB.data
          have e1 := hdB.pos
          have f0 := hdB.free 0
          have f1 := hdB.free 1
          have hzB := blk_lt hdB
          have hset := next_pos hdB
          clear hd0 hd1 hdA
          go_wp2
          go_quiet ((first | (go_at_call 14; exact Calls.quiet_of_same (at_any _ _ _ _ (Rd.drew (next_rd (by omega) hrB _ _) _))) | (go_at_call 15; exact Calls.quiet_of (left_any _ s (s.size) (Nat.le_refl _) hmL _ (Rd.drew (next_rd (by omega) hrB _ _) _)))))
          go_wp2
          go_roundw
          case rel => exact ⟨k + 1, s.size, by omega, by go_num, Both.next (Nat.le_refl _) hrB hdB hbW _ (by go_num) _ _⟩
          case measure => simp [intOf]; omega
      by_cases c2 : kk = 2
      · subst c2
        obtain ⟨q, hq, hqs, hq9⟩ := rs_nat s a hB.le
        go_wp2_with fail
        refine (rlen_any _ s a q hB.le hq hq9 hm8 _ hB.rd).mono ?_
        rintro e wA ⟨rfl, hmv⟩
        have HQ : Hid _ := hq
        clear hq
        have hdA : Dd wA (w.heap.size + 1) s a := (hmv.other _ (by omega)).trans hB.dd
        have hd0 := hdA.data
        have hd1 := hdA.pos
        have hbA := hB.bel.trans (hmv.below (Nat.le_refl _))
        go_wp2_with fail
        refine (refRLen s a q hm8 hB.le HQ.out hq9 _).mono ?_
        rintro e wB ⟨rfl, hbB⟩
        have hdB : Dd wB (w.heap.size + 1) s a := (hbB.block _ (blk_lt hdA)).trans hdA
        have hrB : Rd wB w.heap.size s (a + q) := (hbB.block _ (blk_lt hmv.rd)).trans hmv.rd
        have hbW := hbA.trans (hbB.mono hbA.size)
        have e0 := hdB.data
        have e1 := hdB.pos
        have f0 := hdB.free 0
        have f1 := hdB.free 1
        have hzB := blk_lt hdB
        have hset := next_pos hdB
        clear hd0 hd1 hdA
        go_wp2
        go_quiet ((first | (go_at_call 14; exact Calls.quiet_of_same (at_any _ _ _ _ (Rd.drew (next_rd (by omega) hrB _ _) _))) | (go_at_call 15; exact Calls.quiet_of (left_any _ s (a + q) hqs hmL _ (Rd.drew (next_rd (by omega) hrB _ _) _)))))
        go_wp2
        go_roundw
        case rel => exact ⟨k + 1, a + q, by omega, by go_num, Both.next hqs hrB hdB hbW _ (by go_num) _ _⟩
        case measure => simp [intOf]; omega
      by_cases c1 : kk = 1
      · subst c1
        obtain ⟨hr1, hr0⟩ := HNr.out k hlt
        have HNk : Hid (N k = nn) := hnn
        have hale := hB.le
        by_cases cn : nn < 0
        · go_wp2_with fail
          refine (take_neg _ s a nn cn _ hB.rd).mono ?_
          rintro e wA ⟨rfl, hmv⟩
          have hdA : Dd wA (w.heap.size + 1) s a := (hmv.other _ (by omega)).trans hB.dd
          have hd0 := hdA.data
          have hd1 := hdA.pos
          have hbA := hB.bel.trans (hmv.below (Nat.le_refl _))
          have hrA := hmv.rd
          have hzA := blk_lt hdA
          have hkA := (bcell hbA).1 g (off + k * 2 + 1) hg
          rw [HN.out k hlt, HNk.out] at hkA
          have hSA := And.intro hd0 (And.intro hd1 hkA)
          have ne1 : w.heap.size + 1 ≠ wA.heap.size := by omega
          have ne2 : g ≠ wA.heap.size := by omega
          have ne3 : w.heap.size ≠ wA.heap.size := by omega
          go_upto_region 21 with fail
          go_cut [16, 17, 18] (fun p t f wx => ∃ nb : Nat, p = .pointer (some ⟨nb, 0, none⟩) ∧ t = .string ⟨#[]⟩ ∧ f = .int .i64 1 ∧ nb ≠ w.heap.size ∧ nb ≠ w.heap.size + 1 ∧ Dd wx nb s (a) ∧ Rd wx w.heap.size s (a) ∧ Dd wx (w.heap.size + 1) s a ∧ Below w.heap.size w wx)
          case first =>
            go_region_held3 (fun w' => w'.cell? ⟨w.heap.size + 1, 0, none⟩ = some (.string s) ∧ w'.cell? ⟨w.heap.size + 1, 1, none⟩ = some (.int .i64 (a : Int)) ∧ w'.cell? ⟨g, off + k * 2 + 1, none⟩ = some (.int .i64 nn))
              (first | exact hSA | exact k3_allocd hSA _ | exact k3_alloc hSA _ | exact hSB | exact k3_alloc hSB _ | exact k3_allocd hSB _ | exact k3_set hSB ne1 ne2 _ _ _ _)
              (first | (go_at_call 9; refine (refTake_neg s a nn hm8 cn _).mono ?_; rintro e wB ⟨rfl, hbB⟩; have hdB : Dd wB (w.heap.size + 1) s a := (by first | exact (hbB.block _ (blk_lt hdA)).trans hdA | exact (hbB.block _ (blk_lt (alloc_row hdA _))).trans (alloc_row hdA _)); have hrB : Rd wB w.heap.size s (a) := (by first | exact (hbB.block _ (blk_lt hrA)).trans hrA | exact (hbB.block _ (blk_lt (alloc_row hrA _))).trans (alloc_row hrA _)); have hbW : Below w.heap.size w wB := (by first | exact hbA.drew.trans (hbB.mono hbA.size) | exact (hbA.alloc hbA.size _).drew.trans (hbB.mono (hbA.alloc hbA.size _).size)); have e0 := hdB.data; have e1 := hdB.pos; have hzB := blk_lt hdB; have hkB := (bcell hbW).1 g (off + k * 2 + 1) hg; rw [HN.out k hlt, HNk.out] at hkB; have hSB := And.intro e0 (And.intro e1 hkB); try (have hnR := row2 (new_rows hbB); have hn0 := hnR.1; have hn1 := hnR.2.1; have hnf0 := hnR.2.2 0; have hnf1 := hnR.2.2 1)))
            all_goals
              go_wp2_with fail
              go_meet
              case rel => first | exact ⟨_, rfl, rfl, rfl, by omega, by omega, heap_alloc_new _ _, alloc_row hrB _, alloc_row hdB _, (hbW.alloc hbW.size _)⟩ | exact ⟨_, rfl, rfl, rfl, ne3.symm, ne1.symm, set_two (new_rows hbB) _ _, set_row hrB ne3, set_row hdB ne1, (hbW.setCell hbA.size _).setCell hbA.size _⟩
          case rest =>
            clear hd0 hd1 hdA hmv hbA hrA hkA hzA
            obtain ⟨nb, rfl, rfl, rfl, hn1, hn2, hdn, hrB, hdB, hbW⟩ := hcut
            have g0 := hdn.data
            have g1 := hdn.pos
            have e0 := hdB.data
            have e1 := hdB.pos
            have f0 := hdB.free 0
            have f1 := hdB.free 1
            have hzB := blk_lt hdB
            have hset := next_pos hdB
            go_wp2
            go_quiet ((first | (go_at_call 14; exact Calls.quiet_of_same (at_any _ _ _ _ (Rd.drew (next0_rd (by omega) hrB _) _))) | (go_at_call 15; exact Calls.quiet_of (left_any _ s (a) hB.le hmL _ (Rd.drew (next0_rd (by omega) hrB _) _)))))
            go_wp2
            go_roundw
            case rel => exact ⟨k + 1, a, by omega, by go_num, Both.next0 hB.le hrB hdB hbW _ (by go_num) _⟩
            case measure => simp [intOf]; omega
        by_cases cs : ((s.size - a : Nat) : Int) < nn
        · go_wp2_with fail
          refine (take_short _ s a hB.le hmL nn cs _ hB.rd).mono ?_
          rintro e wA ⟨rfl, hmv⟩
          have hdA : Dd wA (w.heap.size + 1) s a := (hmv.other _ (by omega)).trans hB.dd
          have hd0 := hdA.data
          have hd1 := hdA.pos
          have hbA := hB.bel.trans (hmv.below (Nat.le_refl _))
          have hrA := hmv.rd
          have hzA := blk_lt hdA
          have hkA := (bcell hbA).1 g (off + k * 2 + 1) hg
          rw [HN.out k hlt, HNk.out] at hkA
          have hSA := And.intro hd0 (And.intro hd1 hkA)
          have ne1 : w.heap.size + 1 ≠ wA.heap.size := by omega
          have ne2 : g ≠ wA.heap.size := by omega
          have ne3 : w.heap.size ≠ wA.heap.size := by omega
          go_upto_region 21 with fail
          go_cut [16, 17, 18] (fun p t f wx => ∃ nb : Nat, p = .pointer (some ⟨nb, 0, none⟩) ∧ t = .string ⟨#[]⟩ ∧ f = .int .i64 20 ∧ nb ≠ w.heap.size ∧ nb ≠ w.heap.size + 1 ∧ Dd wx nb s (a) ∧ Rd wx w.heap.size s (a) ∧ Dd wx (w.heap.size + 1) s a ∧ Below w.heap.size w wx)
          case first =>
            go_region_held3 (fun w' => w'.cell? ⟨w.heap.size + 1, 0, none⟩ = some (.string s) ∧ w'.cell? ⟨w.heap.size + 1, 1, none⟩ = some (.int .i64 (a : Int)) ∧ w'.cell? ⟨g, off + k * 2 + 1, none⟩ = some (.int .i64 nn))
              (first | exact hSA | exact k3_allocd hSA _ | exact k3_alloc hSA _ | exact hSB | exact k3_alloc hSB _ | exact k3_allocd hSB _ | exact k3_set hSB ne1 ne2 _ _ _ _)
              (first | (go_at_call 9; refine (refTake_short s a nn hm8 hB.le cs _).mono ?_; rintro e wB ⟨rfl, hbB⟩; have hdB : Dd wB (w.heap.size + 1) s a := (by first | exact (hbB.block _ (blk_lt hdA)).trans hdA | exact (hbB.block _ (blk_lt (alloc_row hdA _))).trans (alloc_row hdA _)); have hrB : Rd wB w.heap.size s (a) := (by first | exact (hbB.block _ (blk_lt hrA)).trans hrA | exact (hbB.block _ (blk_lt (alloc_row hrA _))).trans (alloc_row hrA _)); have hbW : Below w.heap.size w wB := (by first | exact hbA.drew.trans (hbB.mono hbA.size) | exact (hbA.alloc hbA.size _).drew.trans (hbB.mono (hbA.alloc hbA.size _).size)); have e0 := hdB.data; have e1 := hdB.pos; have hzB := blk_lt hdB; have hkB := (bcell hbW).1 g (off + k * 2 + 1) hg; rw [HN.out k hlt, HNk.out] at hkB; have hSB := And.intro e0 (And.intro e1 hkB); try (have hnR := row2 (new_rows hbB); have hn0 := hnR.1; have hn1 := hnR.2.1; have hnf0 := hnR.2.2 0; have hnf1 := hnR.2.2 1)))
            all_goals
              go_wp2_with fail
              go_meet
              case rel => first | exact ⟨_, rfl, rfl, rfl, by omega, by omega, heap_alloc_new _ _, alloc_row hrB _, alloc_row hdB _, (hbW.alloc hbW.size _)⟩ | exact ⟨_, rfl, rfl, rfl, ne3.symm, ne1.symm, set_two (new_rows hbB) _ _, set_row hrB ne3, set_row hdB ne1, (hbW.setCell hbA.size _).setCell hbA.size _⟩
          case rest =>
            clear hd0 hd1 hdA hmv hbA hrA hkA hzA
            obtain ⟨nb, rfl, rfl, rfl, hn1, hn2, hdn, hrB, hdB, hbW⟩ := hcut
            have g0 := hdn.data
            have g1 := hdn.pos
            have e0 := hdB.data
            have e1 := hdB.pos
            have f0 := hdB.free 0
            have f1 := hdB.free 1
            have hzB := blk_lt hdB
            have hset := next_pos hdB
            go_wp2
            go_quiet ((first | (go_at_call 14; exact Calls.quiet_of_same (at_any _ _ _ _ (Rd.drew (next0_rd (by omega) hrB _) _))) | (go_at_call 15; exact Calls.quiet_of (left_any _ s (a) hB.le hmL _ (Rd.drew (next0_rd (by omega) hrB _) _)))))
            go_wp2
            go_roundw
            case rel => exact ⟨k + 1, a, by omega, by go_num, Both.next0 hB.le hrB hdB hbW _ (by go_num) _⟩
            case measure => simp [intOf]; omega
        · obtain ⟨n, rfl⟩ : ∃ n : Nat, nn = (n : Int) := ⟨nn.toNat, by omega⟩
          have hn : a + n ≤ s.size := by have := hB.le; omega
          go_wp2_with fail
          refine (take_ok _ s a n hn hmL _ hB.rd).mono ?_
          rintro e wA ⟨rfl, hmv⟩
          have hdA : Dd wA (w.heap.size + 1) s a := (hmv.other _ (by omega)).trans hB.dd
          have hd0 := hdA.data
          have hd1 := hdA.pos
          have hbA := hB.bel.trans (hmv.below (Nat.le_refl _))
          have hrA := hmv.rd
          have hzA := blk_lt hdA
          have hkA := (bcell hbA).1 g (off + k * 2 + 1) hg
          rw [HN.out k hlt, HNk.out] at hkA
          have hSA := And.intro hd0 (And.intro hd1 hkA)
          have ne1 : w.heap.size + 1 ≠ wA.heap.size := by omega
          have ne2 : g ≠ wA.heap.size := by omega
          have ne3 : w.heap.size ≠ wA.heap.size := by omega
          go_upto_region 21 with fail
          go_cut [16, 17, 18] (fun p t f wx => ∃ nb : Nat, p = .pointer (some ⟨nb, 0, none⟩) ∧ t = .string (s.extract a (a + n)) ∧ f = .int .i64 0 ∧ nb ≠ w.heap.size ∧ nb ≠ w.heap.size + 1 ∧ Dd wx nb s (a + n) ∧ Rd wx w.heap.size s (a + n) ∧ Dd wx (w.heap.size + 1) s a ∧ Below w.heap.size w wx)
          case first =>
            go_region_held3 (fun w' => w'.cell? ⟨w.heap.size + 1, 0, none⟩ = some (.string s) ∧ w'.cell? ⟨w.heap.size + 1, 1, none⟩ = some (.int .i64 (a : Int)) ∧ w'.cell? ⟨g, off + k * 2 + 1, none⟩ = some (.int .i64 (n : Int)))
              (first | exact hSA | exact k3_allocd hSA _ | exact k3_alloc hSA _ | exact hSB | exact k3_alloc hSB _ | exact k3_allocd hSB _ | exact k3_set hSB ne1 ne2 _ _ _ _)
              (first | (go_at_call 9; refine (refTake_ok s a n hm8 hn _).mono ?_; rintro e wB ⟨rfl, hbB⟩; have hdB : Dd wB (w.heap.size + 1) s a := (by first | exact (hbB.block _ (blk_lt hdA)).trans hdA | exact (hbB.block _ (blk_lt (alloc_row hdA _))).trans (alloc_row hdA _)); have hrB : Rd wB w.heap.size s (a + n) := (by first | exact (hbB.block _ (blk_lt hrA)).trans hrA | exact (hbB.block _ (blk_lt (alloc_row hrA _))).trans (alloc_row hrA _)); have hbW : Below w.heap.size w wB := (by first | exact hbA.drew.trans (hbB.mono hbA.size) | exact (hbA.alloc hbA.size _).drew.trans (hbB.mono (hbA.alloc hbA.size _).size)); have e0 := hdB.data; have e1 := hdB.pos; have hzB := blk_lt hdB; have hkB := (bcell hbW).1 g (off + k * 2 + 1) hg; rw [HN.out k hlt, HNk.out] at hkB; have hSB := And.intro e0 (And.intro e1 hkB); try (have hnR := row2 (new_rows hbB); have hn0 := hnR.1; have hn1 := hnR.2.1; have hnf0 := hnR.2.2 0; have hnf1 := hnR.2.2 1)))
            all_goals
              go_wp2_with fail
              go_meet
              case rel => first | exact ⟨_, rfl, rfl, rfl, by omega, by omega, heap_alloc_new _ _, alloc_row hrB _, alloc_row hdB _, (hbW.alloc hbW.size _)⟩ | exact ⟨_, rfl, rfl, rfl, ne3.symm, ne1.symm, set_two (new_rows hbB) _ _, set_row hrB ne3, set_row hdB ne1, (hbW.setCell hbA.size _).setCell hbA.size _⟩
          case rest =>
            clear hd0 hd1 hdA hmv hbA hrA hkA hzA
            obtain ⟨nb, rfl, rfl, rfl, hn1, hn2, hdn, hrB, hdB, hbW⟩ := hcut
            have g0 := hdn.data
            have g1 := hdn.pos
            have e0 := hdB.data
            have e1 := hdB.pos
            have f0 := hdB.free 0
            have f1 := hdB.free 1
            have hzB := blk_lt hdB
            have hset := next_pos hdB
            go_wp2
            go_quiet ((first | (go_at_call 14; exact Calls.quiet_of_same (at_any _ _ _ _ (Rd.drew (next0_rd (by omega) hrB _) _))) | (go_at_call 15; exact Calls.quiet_of (left_any _ s (a + n) hn hmL _ (Rd.drew (next0_rd (by omega) hrB _) _)))))
            go_wp2
            go_roundw
            case rel => exact ⟨k + 1, a + n, by omega, by go_num, Both.next0 hn hrB hdB hbW _ (by go_num) _⟩
            case measure => simp [intOf]; omega
      · have t0 : (kk == 0) = false := by simpa using c0
        have t1 : (kk == 1) = false := by simpa using c1
        have t2 : (kk == 2) = false := by simpa using c2
        obtain ⟨q, hq, hqs, hq9⟩ := js_nat s a hB.le
        have HQ : Hid _ := hq
        clear hq c0 c1 c2
        go_wp2_with fail
        refine (rint_any _ s a q hB.le HQ.out hq9 hm8 _ hB.rd).mono ?_
        rintro e wA ⟨rfl, hmv⟩
        have hdA : Dd wA (w.heap.size + 1) s a := (hmv.other _ (by omega)).trans hB.dd
        have hd0 := hdA.data
        have hd1 := hdA.pos
        have hbA := hB.bel.trans (hmv.below (Nat.le_refl _))
        go_wp2_with fail
        refine (refRInt s a q hm8 hB.le HQ.out hq9 _).mono ?_
        rintro e wB ⟨rfl, hbB⟩
        have hdB : Dd wB (w.heap.size + 1) s a := (hbB.block _ (blk_lt hdA)).trans hdA
        have hrB : Rd wB w.heap.size s (a + q) := (hbB.block _ (blk_lt hmv.rd)).trans hmv.rd
        have hbW := hbA.trans (hbB.mono hbA.size)
        have e0 := hdB.data
        have e1 := hdB.pos
        have f0 := hdB.free 0
        have f1 := hdB.free 1
        have hzB := blk_lt hdB
        have hset := next_pos hdB
        clear hd0 hd1 hdA
        go_wp2
        go_quiet ((first | (go_at_call 14; exact Calls.quiet_of_same (at_any _ _ _ _ (Rd.drew (next_rd (by omega) hrB _ _) _))) | (go_at_call 15; exact Calls.quiet_of (left_any _ s (a + q) hqs hmL _ (Rd.drew (next_rd (by omega) hrB _ _) _)))))
        go_wp2
        go_roundw
        case rel => exact ⟨k + 1, a + q, by omega, by go_num, Both.next hqs hrB hdB hbW _ (by go_num) _ _⟩
        case measure => simp [intOf]; omega
    · go_wp2
      go_ret
      exact ⟨rfl, hB.bel⟩
end Go.Proofs.YtcnicdcjdieodabDoor
