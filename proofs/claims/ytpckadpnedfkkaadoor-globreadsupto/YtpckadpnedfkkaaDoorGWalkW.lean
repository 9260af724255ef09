import Derived.Test.YtpckadpnedfkkaaDoorGReach
import Derived.Deep.LoopGhost
import Derived.WalkMore
namespace Go.Proofs.YtpckadpnedfkkaaDoor
open Go.RowKit Gb
set_option linter.unusedVariables false
theorem own_place {w : World} {base g n c : Nat} {l : List Nat} (h : w.ownsRow base 3 1 (.slice (some ⟨g, 0, none⟩) n c) l.length (pcells l)) (m : Nat) (hm : m < l.length) : w.cell? ⟨g, m, none⟩ = some (.int .i64 ((l.getD m 0 : Nat) : Int)) := by
  rcases h.2 with ⟨e, hn⟩ | ⟨g', cap, cur, hv, _, hg, hn, _, hs, ht⟩
  · omega
  · obtain ⟨rfl, _, _⟩ : g = g' ∧ n = l.length ∧ c = cap := by simpa using hv
    rw [cell_of_row _ _ _ _ _ _ hg]
    have h2 := congrArg (fun x => x[m]?) ht
    simp only [Nat.mul_one, pcells] at h2
    rw [List.getElem?_take_of_lt hm, List.getElem?_map, List.getElem?_eq_getElem hm] at h2
    simpa [List.getD_eq_getElem?_getD, hm] using h2
theorem own_none {w : World} {base e : Nat} {p : Option Addr} {n c : Nat} {xs : List Value} (h : w.ownsRow base e 1 (.slice p n c) n xs) : w.ownsRow base e 1 (.slice p 0 c) 0 [] := by
  rcases h.2 with ⟨he, hn⟩ | ⟨g, cap, cur, hv, h1, h2, h3, h4, h5, h6⟩
  · obtain ⟨rfl, _, rfl⟩ : p = none ∧ n = 0 ∧ c = 0 := by simpa using he
    exact World.ownsRow_nil _ _ _ _
  · obtain ⟨rfl, _, rfl⟩ : p = some ⟨g, 0, none⟩ ∧ n = n ∧ c = cap := by simpa using hv
    exact ⟨rfl, Or.inr ⟨g, c, cur, rfl, h1, h2, Nat.zero_le _, h4, h5, by simp⟩⟩
theorem own_some {w : World} {base : Nat} {v : Value} {l : List Nat} (h : w.ownsRow base 3 1 v l.length (pcells l)) (hl : 0 < l.length) : ∃ g c, v = .slice (some ⟨g, 0, none⟩) l.length c ∧ base ≤ g ∧ g < w.heap.size := by
  rcases h.2 with ⟨e, hn⟩ | ⟨g, cap, cur, hv, h1, hg, _⟩
  · omega
  · exact ⟨g, cap, hv, h1, row_lt hg⟩
theorem reach_le {p : List St} {acc : List Nat} {k : Nat} (h : ∀ x, x ∈ acc → x ≤ p.length) (hk : k ≤ p.length) : ∀ x, x ∈ reachP p acc k → x ≤ p.length := by
  intro x hx
  rcases mem_reach.1 hx with h1 | h1 | ⟨h1, h2⟩
  · exact h x h1
  · omega
  · have := an_lt h1; omega
theorem next_no {p : List St} {b : UInt8} {k : Nat} {r acc : List Nat} (h : fn p k b = false) : nextP p b (k :: r) acc = nextP p b r acc := by
  simp only [nextP]; rw [if_neg (by rw [h]; decide)]
theorem next_end {p : List St} {b : UInt8} {k : Nat} {r acc : List Nat} (h : fn p k b = true) (h2 : an p (toP p k) = true) : nextP p b (k :: r) acc = reachP p acc (toP p k) := by
  simp only [nextP]; rw [if_pos h, if_pos h2]
theorem next_on {p : List St} {b : UInt8} {k : Nat} {r acc : List Nat} (h : fn p k b = true) (h2 : an p (toP p k) = false) : nextP p b (k :: r) acc = nextP p b r (reachP p acc (toP p k)) := by
  simp only [nextP]; rw [if_pos h, if_neg (by rw [h2]; decide)]
theorem drop_cons (l : List Nat) (m : Nat) (h : m < l.length) : l.drop m = l.getD m 0 :: l.drop (m + 1) := by
  rw [List.drop_eq_getElem_cons h, List.getD_eq_getElem?_getD, List.getElem?_eq_getElem h]; rfl
theorem grew_own {w w' : World} {v v' u : Value} {base n : Nat} {xs : List Value} (hg : Grew w w' v v') (h : w.ownsRow base 3 1 u n xs) (hne : u.ownBlock ≠ v.ownBlock) : w'.ownsRow base 3 1 u n xs := h.kept hg.fr (Or.inr hne)
theorem grew_below {w w' : World} {v v' : Value} {base n : Nat} {xs : List Value} (hg : Grew w w' v v') (h : w.ownsRow base 3 1 v n xs) (hb : base ≤ w.heap.size) : Below base w w' :=
  ⟨hg.fr.os, hg.fr.tape, hg.fr.output, hg.fr.size, fun k hk => hg.fr.block k (by omega) (fun e => by have := (World.ownsRow.lt h k e.symm).1; omega)⟩
theorem grew_apart {w w' : World} {v v' : Value} {g : Nat} (hg : Grew w w' v v') (hne : v.ownBlock ≠ some g) (hlt : g < w.heap.size) : v'.ownBlock ≠ some g := by
  rcases hg.ob with e | ⟨h, e, hh⟩
  · rw [e]; exact hne
  · rw [e]; intro x; have := Option.some.inj x; omega
set_option maxHeartbeats 4000000 in
set_option maxRecDepth 20000 in
theorem walk_any (p : List St) (gs cap : Nat) (t : ByteArray) (w : World) (hS : Steps w gs p) (hp : p.length ≤ 3000000) (ht : t.size ≤ 50000000) :
    Calls Tryd.prog 18 #[.slice (some ⟨gs, 0, none⟩) (p.length + 1) cap, .string t] w fun e w' => e = .returned (.bool (walkP p t.data.toList (reachP p [] 0))) ∧ Below w.heap.size w w' := by
  obtain ⟨RES, hRES⟩ : ∃ RES, walkP p t.data.toList (reachP p [] 0) = RES := ⟨_, rfl⟩
  rw [hRES]
  have hgs := hS.lt
  have HS : Hid (Steps w gs p) := hS
  clear hS
  go_enter Tryd.func18, Tryd.ntmps18
  go_wp2
  go_step3
  go_wp2_with fail
  refine (reach_any w.heap.size _ [] p gs cap 0 w HS.out (Nat.zero_le _) hp hgs (by simp) (Nat.le_refl _) (World.ownsRow_nil _ _ _ _)).mono ?_
  rintro e w1 ⟨v1, rfl, hown1, hg1⟩
  have HO1 : Hid (w1.ownsRow w.heap.size 3 1 v1 (reachP p [] 0).length (pcells (reachP p [] 0))) := hown1
  have HB1 : Hid (Below w.heap.size w w1) := grew_below hg1 (World.ownsRow_nil w w.heap.size 3 1) (Nat.le_refl _)
  have HS1 : Hid (Steps w1 gs p) := HS.out.on (HB1.out.block gs hgs) HB1.out.size
  have hb1 : v1.ownBlock = none ∨ v1.ownBlock ≠ none := Classical.em _
  have HN1 : Hid (v1.ownBlock = none ∨ v1.ownBlock ≠ (Value.slice none 0 0).ownBlock) := hb1
  have HRES : Hid _ := hRES
  clear hown1 hg1 hb1 hRES
  go_wp2
  go_step3
  go_wp2
  go_loopg [5, 6, 7, 9, 10] t.size (fun g nx pl i _ _ wr => ∃ (k : Nat) (l : List Nat), k + g = t.size ∧ i = .int .i64 (k : Int) ∧ Hid (wr.ownsRow w.heap.size 3 1 pl l.length (pcells l) ∧ wr.ownsRow w.heap.size 3 1 nx 0 [] ∧ (pl.ownBlock = none ∨ pl.ownBlock ≠ nx.ownBlock) ∧ (∀ x, x ∈ l → x ≤ p.length) ∧ l.length ≤ k + 2 ∧ walkP p (t.data.toList.drop k) l = RES ∧ Steps wr gs p ∧ Below w.heap.size w wr))
  case atStart => exact ⟨0, _, by omega, rfl, HO1.out, World.ownsRow_nil _ _ _ _, HN1.out, reach_le (fun x h => by cases h) (Nat.zero_le _), by have := (reach_len p [] 0).2.1; simpa using this, HRES.out, HS1.out, HB1.out⟩
  case round =>
    obtain ⟨k, l, hkg, rfl, HH⟩ := hrel
    have hll := HH.out.2.2.2.2.1
    by_cases hl0 : l.length = 0
    · have HZ : Hid (false = RES) := by
        show _ = _
        have := HH.out.2.2.2.2.2.1
        rw [List.length_eq_zero_iff.1 hl0] at this
        rw [← this]
        cases t.data.toList.drop k <;> rfl
      obtain ⟨pp, cc, ev⟩ := own_form HH.out.1
      subst ev
      rw [hl0]
      go_wp2
      all_goals (try rw [Exit.noGoto_ret])
      all_goals go_ret
      all_goals exact ⟨by rw [← HZ.out]; rfl, HH.out.2.2.2.2.2.2.2⟩
    · obtain ⟨gP, cP, eP, hgP, hgPw⟩ := own_some HH.out.1 (by omega)
      subst eP
      cases gk with
      | zero =>
        have hkt : k = t.size := by omega
        have hc0 := own_place HH.out.1 0 (by omega)
        have HZ : Hid ((l.getD 0 0 == p.length) = RES) := by
          show _ = _
          rw [← HH.out.2.2.2.2.2.1, hkt, List.drop_eq_nil_of_le (by rw [list_len]; exact Nat.le_refl _)]
          simp only [walkP]
          cases l with
          | nil => exact absurd rfl hl0
          | cons a r => rw [Bool.eq_iff_iff]; simp
        have hlp : 0 < l.length := by omega
        obtain ⟨x, hx⟩ : ∃ x, l.getD 0 0 = x := ⟨_, rfl⟩
        rw [hx] at hc0 HZ
        have HZ2 : Hid (((x : Int) == (p.length : Int)) = (x == p.length)) := by
          show _ = _
          rw [Bool.eq_iff_iff, beq_iff_eq, beq_iff_eq]; omega
        clear hx
        go_wp2
        try rw [Exit.noGoto_ret]
        go_ret
        exact ⟨by rw [← HZ.out, ← HZ2.out]; rfl, HH.out.2.2.2.2.2.2.2⟩
      | succ g =>
        have hkt : k < t.size := by omega
        obtain ⟨b, eb⟩ : ∃ b, t[k] = b := ⟨_, rfl⟩
        have HWN : Hid (walkP p (t.data.toList.drop (k + 1)) (nextP p b l []) = RES) := by
          show _ = _
          rw [← HH.out.2.2.2.2.2.1, drop_at t k hkt, eb]
          simp only [walkP]
          rw [if_neg (by intro h; exact hl0 (by rw [List.isEmpty_iff.1 h]; rfl))]
        have hlp : 0 < l.length := by omega
        go_wp2
        go_loopg [5, 9, 10, 29] l.length (fun g2 nx _ _ j wr2 => ∃ (m : Nat) (acc : List Nat), m + g2 = l.length ∧ j = .int .i64 (m : Int) ∧ Hid (wr2.ownsRow w.heap.size 3 1 nx acc.length (pcells acc) ∧ nx.ownBlock ≠ some gP ∧ wr2.ownsRow w.heap.size 3 1 (.slice (some ⟨gP, 0, none⟩) l.length cP) l.length (pcells l) ∧ nextP p b (l.drop m) acc = nextP p b l [] ∧ (∀ x, x ∈ acc → x ≤ p.length) ∧ acc.length ≤ m ∧ Steps wr2 gs p ∧ Below w.heap.size w wr2))
        case atStart =>
          obtain ⟨h1, h2, h3, h4, h5, h6, h7, h8⟩ := HH.out
          have h3' : u5.ownBlock ≠ some gP := by
            rcases h3 with h | h
            · cases h
            · exact fun e => h e.symm
          exact ⟨0, [], by omega, rfl, h2, h3', h1, rfl, fun x h => (by cases h), Nat.le_refl _, h7, h8⟩
        case round =>
          obtain ⟨m, acc, hmg, rfl, HJ⟩ := hrel
          have hnb := HJ.out.2.2.2.2.2.1
          have hbz2 : w.heap.size ≤ wr.heap.size := HJ.out.2.2.2.2.2.2.2.size
          cases gk with
          | zero =>
            have hml : m = l.length := by omega
            have HE : Hid (acc = nextP p b l []) := by
              show _ = _
              rw [← HJ.out.2.2.2.1, hml, List.drop_length]; rfl
            clear hml
            have hnlt : ¬ ((m : Int) < (l.length : Int)) := by omega
            go_wp2_with fail
            go_quiet (fail)
            go_wp2
            go_roundg g
            case measure => omega
            case rel =>
              obtain ⟨h1, h2, h3, h4, h5, h6, h7, h8⟩ := HJ.out
              refine ⟨k + 1, acc, by omega, by first | rfl | simp, own_keep h1 (fun _ _ _ => rfl), own_keep (own_none h3) (fun _ _ _ => rfl), Or.inr h2, h5, by omega, by rw [HE.out]; exact HWN.out, h7.on rfl (Nat.le_refl _), below_dn h8 _⟩
          | succ g2 =>
            have hml : m < l.length := by omega
            obtain ⟨a, ha⟩ : ∃ a, l.getD m 0 = a := ⟨_, rfl⟩
            have hal : a ≤ p.length := by
              rw [← ha]
              refine HH.out.2.2.2.1 _ ?_
              rw [List.getD_eq_getElem?_getD, List.getElem?_eq_getElem hml]; exact List.getElem_mem hml
            have hca := own_place HJ.out.2.2.1 m hml
            rw [ha] at hca
            have hmlt : (m : Int) < (l.length : Int) := by omega
            have HDR : Hid (nextP p b (a :: l.drop (m + 1)) acc = nextP p b l []) := by
              show _ = _
              rw [← HJ.out.2.2.2.1, drop_cons l m hml, ha]
            have HAS : Hid (∀ n : Nat, Calls Tryd.prog 27 #[.pointer (some ⟨gs, a * 5, none⟩), .int .u8 (b.toNat : Int)] (wr.drewN n) fun e w' => e = .returned (.bool (fn p a b)) ∧ w' = wr.drewN n) := fun n =>
              has_any (wr.drewN n) gs (a * 5) (at' p a).f b (fun q hq => HJ.out.2.2.2.2.2.2.1.word a hal q hq)
            have halt : a < p.length + 1 := by omega
            clear ha
            by_cases hf : fn p a b = true
            · rw [hf] at HAS
              have halp : a < p.length := fn_lt hf
              have hma := HJ.out.2.2.2.2.2.2.1.many a hal
              by_cases han : an p a = true
              · rw [han] at hma
                have hto : toP p a = a := by unfold toP; rw [if_pos han]
                have hto2 : an p (toP p a) = true := by rw [hto]; exact han
                have HEN : Hid (reachP p acc a = nextP p b l []) := by
                  show _ = _
                  rw [← HDR.out, next_end hf hto2, hto]
                clear hto hto2
                go_wp2_with fail
                go_quiet ((go_at_call 27; exact Calls.quiet_of_same (HAS.out _)))
                go_wp2_with fail
                refine (reach_any w.heap.size u5 acc p gs cap a (wr.drewN nq) (HJ.out.2.2.2.2.2.2.1.on rfl (Nat.le_refl _)) hal hp hgs (by omega) hbz2 (own_keep HJ.out.1 (fun _ _ _ => rfl))).mono ?_
                rintro e w3 ⟨v3, rfl, hown3, hg3⟩
                have HO3 : Hid (w3.ownsRow w.heap.size 3 1 v3 (reachP p acc a).length (pcells (reachP p acc a))) := hown3
                have HB3 : Hid (Below w.heap.size (wr.drewN nq) w3) := grew_below hg3 (own_keep HJ.out.1 (fun _ _ _ => rfl)) hbz2
                have HS3 : Hid (Steps w3 gs p) := HJ.out.2.2.2.2.2.2.1.on (HB3.out.block gs hgs) HB3.out.size
                have HP3 : Hid (w3.ownsRow w.heap.size 3 1 (.slice (some ⟨gP, 0, none⟩) l.length cP) l.length (pcells l)) := grew_own hg3 (own_keep HJ.out.2.2.1 (fun _ _ _ => rfl)) (fun e => HJ.out.2.1 e.symm)
                have HA3 : Hid (v3.ownBlock ≠ some gP) := grew_apart hg3 HJ.out.2.1 ((World.ownsRow.lt HJ.out.2.2.1 gP rfl).2)
                have hma3 := HS3.out.many a hal
                rw [han] at hma3
                clear hown3 hg3 hma han hf
                go_wp2_with fail
                go_quiet (fail)
                go_wp2
                go_roundg g
                case measure => omega
                case rel =>
                  refine ⟨k + 1, nextP p b l [], by omega, by first | rfl | simp, by rw [← HEN.out]; exact own_keep HO3.out (fun _ _ _ => rfl), own_keep (own_none HP3.out) (fun _ _ _ => rfl), Or.inr HA3.out, by rw [← HEN.out]; exact reach_le HJ.out.2.2.2.2.1 hal, ?_, HWN.out, HS3.out.on rfl (Nat.le_refl _), below_dn ((below_dn HJ.out.2.2.2.2.2.2.2 _).trans HB3.out) _⟩
                  have := next_len p b l []
                  simp at this
                  omega
              · have han' : an p a = false := by simpa using han
                rw [han'] at hma
                have hto : toP p a = a + 1 := by unfold toP; rw [if_neg han]
                have HRC : Hid (∀ n : Nat, Calls Tryd.prog 26 #[u5, .slice (some ⟨gs, 0, none⟩) (p.length + 1) cap, .int .i64 ((a : Int) + 1)] (wr.drewN n) fun e w' => ∃ v', e = .returned v' ∧ w'.ownsRow w.heap.size 3 1 v' (reachP p acc (a + 1)).length (pcells (reachP p acc (a + 1))) ∧ Grew (wr.drewN n) w' u5 v') := fun n =>
                  reach_any w.heap.size u5 acc p gs cap (a + 1) (wr.drewN n) (HJ.out.2.2.2.2.2.2.1.on rfl (Nat.le_refl _)) halp hp hgs (by omega) hbz2 (own_keep HJ.out.1 (fun _ _ _ => rfl))
                by_cases han2 : an p (a + 1) = true
                · have hto2 : an p (toP p a) = true := by rw [hto]; exact han2
                  have HEN : Hid (reachP p acc (a + 1) = nextP p b l []) := by
                    show _ = _
                    rw [← HDR.out, next_end hf hto2, hto]
                  clear hto hto2
                  go_wp2_with fail
                  go_quiet ((go_at_call 27; exact Calls.quiet_of_same (HAS.out _)))
                  go_wp2_with fail
                  refine (show Calls _ _ _ _ _ from HRC.out nq).mono ?_
                  rintro e w3 ⟨v3, rfl, hown3, hg3⟩
                  have HO3 : Hid (w3.ownsRow w.heap.size 3 1 v3 (reachP p acc (a + 1)).length (pcells (reachP p acc (a + 1)))) := hown3
                  have HB3 : Hid (Below w.heap.size (wr.drewN nq) w3) := grew_below hg3 (own_keep HJ.out.1 (fun _ _ _ => rfl)) hbz2
                  have HS3 : Hid (Steps w3 gs p) := HJ.out.2.2.2.2.2.2.1.on (HB3.out.block gs hgs) HB3.out.size
                  have HP3 : Hid (w3.ownsRow w.heap.size 3 1 (.slice (some ⟨gP, 0, none⟩) l.length cP) l.length (pcells l)) := grew_own hg3 (own_keep HJ.out.2.2.1 (fun _ _ _ => rfl)) (fun e => HJ.out.2.1 e.symm)
                  have HA3 : Hid (v3.ownBlock ≠ some gP) := grew_apart hg3 HJ.out.2.1 ((World.ownsRow.lt HJ.out.2.2.1 gP rfl).2)
                  have hma3 := HS3.out.many (a + 1) halp
                  rw [han2] at hma3
                  clear hown3 hg3 hma han hf han' han2
                  go_wp2_with fail
                  go_quiet (fail)
                  go_wp2
                  go_roundg g
                  case measure => omega
                  case rel =>
                    refine ⟨k + 1, nextP p b l [], by omega, by first | rfl | simp, by rw [← HEN.out]; exact own_keep HO3.out (fun _ _ _ => rfl), own_keep (own_none HP3.out) (fun _ _ _ => rfl), Or.inr HA3.out, by rw [← HEN.out]; exact reach_le HJ.out.2.2.2.2.1 halp, ?_, HWN.out, HS3.out.on rfl (Nat.le_refl _), below_dn ((below_dn HJ.out.2.2.2.2.2.2.2 _).trans HB3.out) _⟩
                    have := next_len p b l []
                    simp at this
                    omega
                · have han2' : an p (a + 1) = false := by simpa using han2
                  have hto2 : an p (toP p a) = false := by rw [hto]; exact han2'
                  have HEN : Hid (nextP p b (l.drop (m + 1)) (reachP p acc (a + 1)) = nextP p b l []) := by
                    show _ = _
                    rw [← HDR.out, next_on hf hto2, hto]
                  have hrl : (reachP p acc (a + 1)).length = acc.length + 1 := (reach_len p acc (a + 1)).2.2 han2'
                  clear hto hto2
                  go_wp2_with fail
                  go_quiet ((go_at_call 27; exact Calls.quiet_of_same (HAS.out _)))
                  go_wp2_with fail
                  refine (show Calls _ _ _ _ _ from HRC.out nq).mono ?_
                  rintro e w3 ⟨v3, rfl, hown3, hg3⟩
                  have HO3 : Hid (w3.ownsRow w.heap.size 3 1 v3 (reachP p acc (a + 1)).length (pcells (reachP p acc (a + 1)))) := hown3
                  have HB3 : Hid (Below w.heap.size (wr.drewN nq) w3) := grew_below hg3 (own_keep HJ.out.1 (fun _ _ _ => rfl)) hbz2
                  have HS3 : Hid (Steps w3 gs p) := HJ.out.2.2.2.2.2.2.1.on (HB3.out.block gs hgs) HB3.out.size
                  have HP3 : Hid (w3.ownsRow w.heap.size 3 1 (.slice (some ⟨gP, 0, none⟩) l.length cP) l.length (pcells l)) := grew_own hg3 (own_keep HJ.out.2.2.1 (fun _ _ _ => rfl)) (fun e => HJ.out.2.1 e.symm)
                  have HA3 : Hid (v3.ownBlock ≠ some gP) := grew_apart hg3 HJ.out.2.1 ((World.ownsRow.lt HJ.out.2.2.1 gP rfl).2)
                  have hma3 := HS3.out.many (a + 1) halp
                  rw [han2'] at hma3
                  have HRL : Hid _ := hrl
                  clear hown3 hg3 hma han hf han' han2 han2' hrl
                  go_wp2
                  go_roundg g2
                  case measure => omega
                  case rel =>
                    exact ⟨m + 1, reachP p acc (a + 1), by omega, by first | rfl | simp, HO3.out, HA3.out, HP3.out, HEN.out, reach_le HJ.out.2.2.2.2.1 halp, by rw [HRL.out]; omega, HS3.out, (below_dn HJ.out.2.2.2.2.2.2.2 _).trans HB3.out⟩
            · have hf' : fn p a b = false := by simpa using hf
              rw [hf'] at HAS
              have HEN : Hid (nextP p b (l.drop (m + 1)) acc = nextP p b l []) := by
                show _ = _
                rw [← HDR.out, next_no hf']
              clear hf hf'
              go_wp2_with fail
              go_quiet ((go_at_call 27; exact Calls.quiet_of_same (HAS.out _)))
              go_wp2
              go_roundg g2
              case measure => omega
              case rel =>
                obtain ⟨h1, h2, h3, h4, h5, h6, h7, h8⟩ := HJ.out
                exact ⟨m + 1, acc, by omega, by first | rfl | simp, own_keep h1 (fun _ _ _ => rfl), h2, own_keep h3 (fun _ _ _ => rfl), HEN.out, h5, by omega, h7.on rfl (Nat.le_refl _), below_dn h8 _⟩
end Go.Proofs.YtpckadpnedfkkaaDoor
