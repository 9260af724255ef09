import Derived.Test.YtapmgknaimakoaaSure
import Derived.Deep.DeepCutAuto
import Derived.Laws.IdiomStrings
namespace Go.Proofs.Ytapmgknaimakoaa
open Go.RowKit CrcM

structure Bw (w wr : World) (l : List UInt8) : Prop where
  row : ∃ C : Array Value, wr.heap[w.heap.size]? = some (.cells C 5 (C.size, C.size + 1)) ∧ l.length ≤ C.size ∧ ∀ j (h : j < l.length), C[j]? = some (.int .u8 (l[j].toNat : Int))
  below : Below w.heap.size w wr
theorem Bw.start (w : World) (s : ByteArray) (cap : Nat) : Bw w (w.alloc (.cells (bytesRow s cap) 5 ((bytesRow s cap).size, (bytesRow s cap).size + 1))).drew s.data.toList :=
  ⟨⟨bytesRow s cap, by rw [heap_drew]; exact heap_alloc_new _ _, by simp [bytesRow], fun j h => by
      have h' : j < s.data.size := by simpa using h
      rw [bytesRow_at s cap j h']; simp⟩,
   ((Below.refl _ _).alloc (Nat.le_refl _) _).drew⟩
theorem Bw.cell {w wr : World} {l : List UInt8} (h : Bw w wr l) (j : Nat) (hj : j < l.length) : wr.cell? ⟨w.heap.size, j, none⟩ = some (.int .u8 (l[j].toNat : Int)) := by
  obtain ⟨C, h1, h2, h3⟩ := h.row
  rw [cell_of_row _ _ _ _ _ _ h1, h3 j hj]
theorem Bw.frozen {w wr : World} {l : List UInt8} (h : Bw w wr l) (j : Nat) (hj : j < l.length) : wr.frozen? ⟨w.heap.size, j, none⟩ = false := by
  obtain ⟨C, h1, h2, h3⟩ := h.row
  simp [World.frozen?, h1]; omega
theorem heap_setCell_mark (w : World) (g i : Nat) (cs : Array Value) (t : TypeId) (fr : Nat × Nat) (v : Value) (hg : w.heap[g]? = some (.cells cs t fr)) :
    (w.setCell ⟨g, i, none⟩ v).heap[g]? = some (.cells (cs.setIfInBounds i v) t fr) := by
  simp only [World.setCell, Array.getElem?_modify]
  simp [hg]
theorem Bw.set {w wr : World} {l : List UInt8} (h : Bw w wr l) (j : Nat) (x : UInt8) : Bw w (wr.setCell ⟨w.heap.size, j, none⟩ (.int .u8 (x.toNat : Int))) (l.set j x) := by
  obtain ⟨C, h1, h2, h3⟩ := h.row
  refine ⟨⟨C.setIfInBounds j (.int .u8 (x.toNat : Int)), ?_, ?_, ?_⟩, h.below.setCell (Nat.le_refl _) _⟩
  · rw [heap_setCell_mark _ _ _ _ _ _ _ h1]; simp
  · simpa using h2
  · intro i hi
    have hi' : i < l.length := by simpa using hi
    rw [Array.getElem?_setIfInBounds, List.getElem_set]
    by_cases e : j = i
    · subst e; simp; omega
    · simp [e, h3 i hi']
theorem Bw.back {w wr : World} {l : List UInt8} (h : Bw w wr l) (n cap : Nat) (hn : n = l.length) :
    Sem.run Try.prog (convert 24 9 (.slice (some ⟨w.heap.size, 0, none⟩) n cap)) wr = .ok (.string ⟨l.toArray⟩) wr := by
  subst hn
  refine run_convert_bytes_back wr 24 9 5 ⟨w.heap.size, 0, none⟩ cap l Try.underlying24 Try.underlying5 Try.underlying9 ?_
  intro j hj
  have e : (⟨w.heap.size, 0, none⟩ : Addr).add j = ⟨w.heap.size, j, none⟩ := by unfold Addr.add; split <;> simp_all
  rw [e]; exact h.cell j hj

theorem bit_at (ch : BitVec 64) (k : Nat) : ((uv ch / 2 ^ k).tmod 2 == 1) = ch.getLsbD k := by
  rw [uv_shr, Int.tmod_eq_emod_of_nonneg (uv_lo _), bit0_mod, BitVec.getLsbD_ushiftRight]
  rfl
theorem xor_at (x : UInt8) (r : Nat) (hr : r < 8) : bits .xor .u8 (x.toNat : Int) (2 ^ r % 256) = ((x ^^^ UInt8.ofNat (2 ^ r)).toNat : Int) := by
  have h2 : 2 ^ r < 256 := Nat.pow_lt_pow_right (a := 2) (by omega) (show r < 8 from hr)
  have e : ((2 : Int) ^ r % 256) = ((2 ^ r : Nat) : Int) := by
    rw [show ((2 : Int) ^ r % 256) = ((2 ^ r % 256 : Nat) : Int) by simp, Nat.mod_eq_of_lt h2]
  rw [e, u8_xor_nat _ _ x.toNat_lt h2, UInt8.toNat_xor, UInt8.toNat_ofNat', Nat.mod_eq_of_lt (by exact h2)]
theorem uv_bne (a b : BitVec 64) : (uv a != uv b) = (a != b) := by
  rw [Bool.eq_iff_iff]
  simp only [bne_iff_ne, ne_eq]
  constructor
  · intro h e; exact h (by rw [e])
  · intro h e; exact h (uv_inj e)

def outB (n : Int) (z : Nat) : Bool := decide (n < 0 ∨ 8 * (z : Int) ≤ n)
set_option maxHeartbeats 1000000 in
theorem burst_main (s : ByteArray) (n : Int) (ch : BitVec 64) (hs : s.size ≤ 140737488351232) (hn1 : -9223372036854775808 ≤ n) (hn2 : n ≤ 9223372036854775807) (h0 : 0 < s.size) (hc : (uv ch == 0) = false) (w : World) :
    Calls Try.prog 3 #[.string s, .int .i64 n, .int .u64 (uv ch)] w fun e w' => e = .returned (.bool true) ∧ Below w.heap.size w w' := by
  have hl : ((s.size : Int) == 0) = false := by rw [beq_eq_false_iff_ne]; omega
  have hcv := fun w s => run_bytes_of_string (P := Try.prog) w 9 24 5 s Try.underlying9 Try.underlying24 Try.underlying5
  go_enter Try.func3, Try.ntmps3
  go_upto_region 4 with fail
  go_cut [28] (fun c wc => c = .bool (outB n s.size) ∧ wc = w)
  case first =>
    by_cases h1 : n < 0
    · go_wp2_with fail
      go_meet
      exact ⟨by unfold outB; rw [decide_eq_true (Or.inl h1)], rfl⟩
    · by_cases h2 : 8 * (s.size : Int) ≤ n
      · go_wp2_with fail
        go_meet
        exact ⟨by unfold outB; rw [decide_eq_true (Or.inr h2)], rfl⟩
      · go_wp2_with fail
        go_meet
        exact ⟨by unfold outB; rw [decide_eq_false (by omega)], rfl⟩
  case rest =>
    obtain ⟨rfl, rfl⟩ := hcut
    go_upto_if 28 with fail
    go_cut [1] (fun a wx => ∃ A : Nat, a = .int .i64 A ∧ A < 8 * s.size ∧ wx = wc)
    case first =>
      cases h : outB n s.size
      · have hh : ¬ (n < 0 ∨ 8 * (s.size : Int) ≤ n) := of_decide_eq_false h
        go_wp2_with fail
        go_meet
        exact ⟨n.toNat, by rw [Int.toNat_of_nonneg (by omega)], by omega, rfl⟩
      · go_wp2_with fail
        go_meet
        exact ⟨0, rfl, by omega, rfl⟩
    case rest =>
      obtain ⟨A, rfl, hA, rfl⟩ := hcut
      go_wp2_with fail
      clear hcv
      generalize grownCap wc s.size 0 5 = cap
      go_loopw [9, 10] (fun t i wr => ∃ (k : Nat) (l : List UInt8), k ≤ 64 ∧ A + k ≤ 8 * s.size ∧ i = .int .i64 k ∧ l.length = s.size ∧ t = .bool (low k ch != 0#64) ∧
        upd 0#64 l ^^^ upd 0#64 s.data.toList = Hn (8 * s.size - A) (low k ch) ∧ Bw wc wr l) (fun _ i _ => 64 - (intOf i).toNat)
      case atStart => exact ⟨0, s.data.toList, by omega, by omega, rfl, by simp, by rw [low_zero]; rfl, by rw [low_zero, Hn_zero]; simp, Bw.start _ _ _⟩
      case round =>
        obtain ⟨k, l, hk, hA2, rfl, hlen, rfl, hu, hbw⟩ := hrel
        by_cases hin : k < 64 ∧ A + k < 8 * s.size
        · obtain ⟨hk1, hk2⟩ := hin
          have hj : (A + k) / 8 < l.length := by omega
          have hcell := hbw.cell _ hj
          have hfr := hbw.frozen _ hj
          have hbit := bit_at ch k
          have HX : Hid _ := xor_at l[(A + k) / 8] ((A + k) % 8) (Nat.mod_lt _ (by omega))
          have HU : Hid _ := hu
          have HW : Hid _ := hbw
          have HL : Hid (l.length = s.size) := hlen
          clear hu hbw hlen
          cases hch : ch.getLsbD k
          · rw [hch] at hbit
            have HC : Hid _ := hch
            clear hch
            go_wp2
            go_roundw
            case rel => exact ⟨k + 1, l, by omega, by omega, by go_num, HL.out, by rw [low_same k ch hk1 HC.out], by rw [low_same k ch hk1 HC.out]; exact HU.out, HW.out⟩
            case measure => simp [intOf]; omega
          · rw [hch] at hbit
            have HC : Hid _ := hch
            clear hch
            go_wp2
            go_roundw
            case rel =>
              refine ⟨k + 1, l.set ((A + k) / 8) (l[(A + k) / 8] ^^^ UInt8.ofNat (2 ^ ((A + k) % 8))), by omega, by omega, by go_num, by rw [List.length_set]; exact HL.out, ?_, ?_, ?_⟩
              · have := low_ne k ch HC.out
                simpa using this
              · have hsl : s.data.toList.length = s.size := by simp
                have := burst_step s.data.toList l ch A k (by rw [HL.out, hsl]) hk1 (by rw [hsl]; exact hk2) hj (by rw [hsl]; exact HU.out) HC.out
                rw [hsl] at this
                exact this
              · rw [HX.out]; exact HW.out.set _ _
            case measure => simp [intOf]; omega
        · have HW : Hid _ := hbw
          have hbk := hbw.back s.size cap hlen.symm
          have hlm : ByteArray.size ⟨l.toArray⟩ ≤ maxLen := by
            have e : ByteArray.size ⟨l.toArray⟩ = l.length := by simp [ByteArray.size]
            rw [e, hlen]; unfold maxLen; omega
          have hsm : s.size ≤ maxLen := by unfold maxLen; omega
          have HS : Hid (∀ w, Calls Try.prog 10 #[.string ⟨l.toArray⟩] w fun e w' => e = .returned (.int .u64 (uv (upd 0#64 l))) ∧ Below w.heap.size w w') := by
            intro w
            have h := sum_any ⟨l.toArray⟩ hlm w
            exact h
          have HU : Hid _ := hu
          clear hu hbw hlen hlm
          cases hlow : (low k ch != 0#64)
          · by_cases hk1 : k < 64
            all_goals
              go_wp2_with fail
              refine (sure_any _).mono ?_
              rintro e w5 ⟨rfl, hb5⟩
              go_wp2
              go_ret
              exact ⟨rfl, HW.out.below.trans (hb5.mono HW.out.below.size)⟩
          · have hne : (uv (upd 0#64 l) != uv (upd 0#64 s.data.toList)) = true := by
              rw [uv_bne]
              have h2 : low k ch ≠ 0#64 := by simpa using hlow
              have := burst_end _ _ _ _ HU.out h2
              simpa using this
            by_cases hk1 : k < 64
            all_goals
              go_wp2_with fail
              refine (HS.out _).mono ?_
              rintro e w3 ⟨rfl, hb3⟩
              go_wp2_with fail
              refine (sum_any _ hsm _).mono ?_
              rintro e w4 ⟨rfl, hb4⟩
              go_wp2_with fail
              refine (sure_any _).mono ?_
              rintro e w5 ⟨rfl, hb5⟩
              go_wp2
              go_ret
              exact ⟨rfl, ((HW.out.below.trans (hb3.mono HW.out.below.size)).trans (hb4.mono (Nat.le_trans HW.out.below.size hb3.size))).trans (hb5.mono (Nat.le_trans (Nat.le_trans HW.out.below.size hb3.size) hb4.size))⟩
end Go.Proofs.Ytapmgknaimakoaa
