import Derived.Test.YtjnbjfjoejfmpaaGreatDoorWAS
namespace Go.Proofs.YtjnbjfjoejfmpaaGreatDoor
open Go.RowKit
set_option linter.unusedVariables false
set_option linter.unusedSimpArgs false
def rngQ {α:Type} (L:List α) (fr tt:Int):List α:=(L.take (tt + 1).toNat).drop fr.toNat
theorem rng_end {α:Type} (L:List α) (fr tt:Int) (i:Nat) (h1:fr.toNat ≤ i) (h2:i=fr.toNat ∨ i ≤ L.length∧(i:Int) ≤ tt + 1) (h3:L.length ≤ i ∨ tt < (i:Int)):(L.take i).drop fr.toNat=rngQ L fr tt:=by
  unfold rngQ
  by_cases he:i=fr.toNat
  · subst he
    rw [List.drop_eq_nil_of_le (by rw [List.length_take]; omega)]
    refine (List.drop_eq_nil_of_le ?_).symm
    rw [List.length_take]; omega
  · rcases h2 with h2 | ⟨h2,h4⟩
    · exact absurd h2 he
    · rcases h3 with h3 | h3
      · rw [List.take_of_length_le (i:=i) (by omega),List.take_of_length_le (i:=(tt + 1).toNat) (by omega)]
      · rw [show (tt + 1).toNat=i by omega]
section
variable {ok:Nat → Prop}
set_option maxHeartbeats 2000000 in
set_option maxRecDepth 100000 in
theorem rrange_any (E B:Nat) (v:Value) (N:QM.NL) (fr tt:Int) (hto:-9223372036854775808 ≤ tt∧tt ≤ 9223372036854775807) (hl:N.flatten.length ≤ 1000) (hn:N.length ≤ 1000) (w:World) (h:RL ok w v N) :
    Calls Tryz.prog 45 #[rlV E B v,.int .i64 fr,.int .i64 tt] w fun e w'=>∃ v',e=.returned v'∧w'.ownsRow w.heap.size 9 1 v' (rngQ N.flatten fr tt).length (strV (rngQ N.flatten fr tt))∧Below w.heap.size w w':=by
  have HE:Hid (∀ W,Below w.heap.size w W → Calls Tryz.prog 30 #[rlV E B v] W fun e w'=>∃ v',e=.returned v'∧w'.ownsRow W.heap.size 9 1 v' N.flatten.length (strV N.flatten)∧Below W.heap.size W w'):=fun W hW=>elems_any E B v N (by omega) (by omega) W (h.on hW)
  obtain ⟨P,c,rfl⟩:=h.form
  generalize N.flatten=FL at *
  obtain ⟨j0,hj0⟩:∃ j0,fr.toNat=j0:=⟨_,rfl⟩
  have hmx:max fr 0=(j0:Int):=by rw [← hj0]; omega
  have HEN:Hid (∀ i:Nat,j0 ≤ i → (i=j0 ∨ i ≤ FL.length∧(i:Int) ≤ tt + 1) → (FL.length ≤ i ∨ tt < (i:Int)) → (FL.take i).drop j0=rngQ FL fr tt):=fun i a b d=>by
    have:=rng_end FL fr tt i (by rw [hj0]; exact a) (by rw [hj0]; exact b) d
    rw [hj0] at this; exact this
  generalize rngQ FL fr tt=RG at *
  obtain ⟨RN,hRN⟩:∃ RN:Nat → List ByteArray,∀ i,RN i=(FL.take i).drop j0:=⟨_,fun _=>rfl⟩
  obtain ⟨RC,hRC⟩:∃ RC:Nat → Nat,∀ i,RC i=(RN i).length:=⟨_,fun _=>rfl⟩
  have HR0:Hid (RN j0=[]∧RC j0=0):=by
    have:RN j0=[]:=by rw [hRN]; exact List.drop_eq_nil_of_le (by rw [List.length_take]; omega)
    exact ⟨this,by rw [hRC,this]; rfl⟩
  have HRS:Hid (∀ i (hi:i < FL.length),j0 ≤ i → RN (i + 1)=RN i ++ [FL[i]]∧RC (i + 1)=RC i + 1∧RC (i + 1) ≤ 1000):=fun i hi hj=>by
    have e1:RN (i + 1)=RN i ++ [FL[i]]:=by
      rw [hRN,hRN,takeN_snoc FL i hi,List.drop_append_of_le_length (by rw [List.length_take]; omega)]
    refine ⟨e1,by rw [hRC,hRC,e1]; simp,?_⟩
    rw [hRC,hRN,List.length_drop,List.length_take]; omega
  have HRE:Hid (∀ i:Nat,j0 ≤ i → (i=j0 ∨ i ≤ FL.length∧(i:Int) ≤ tt + 1) → (FL.length ≤ i ∨ tt < (i:Int)) → RN i=RG∧RC i=RG.length):=fun i a b d=>by
    have:=HEN.out i a b d
    exact ⟨by rw [hRN]; exact this,by rw [hRC,hRN,this]⟩
  clear h hRN hRC HEN hj0
  go_enter Tryz.func45,Tryz.ntmps45
  go_wp2_with fail
  refine (show Calls _ _ _ _ _ from HE.out _ ?b1).mono ?_
  case b1=>first | exact Below.refl _ _ | exact (Below.refl _ _).alloc (Nat.le_refl _) _
  rintro e w1 ⟨v',rfl,ho,hb⟩
  have HB1:Hid (Below w.heap.size w w1):=by first | exact hb | exact bel_to ((Below.refl _ w).alloc (Nat.le_refl _) _) hb (Nat.le_refl _)
  have hd:=DRow.of_own (ok:=fun _=>True) ho (by simp) (fun _ _=>trivial)
  have HD:Hid (DRow (fun _=>True) w1 v' (strV FL)):=hd
  obtain ⟨P8,k8,hkf⟩:=hd.sform
  subst hkf
  clear ho hb hd
  go_wp2
  go_loopw [8,9] (fun co ci wr=>∃ i:Nat,j0 ≤ i∧(i=j0 ∨ i ≤ FL.length∧(i:Int) ≤ tt + 1)∧ci=.int .i64 (i:Int)∧Below w1.heap.size w1 wr∧wr.ownsRow w1.heap.size 9 1 co (RC i) (strV (RN i))) (fun _ ci _=>FL.length - (intOf ci).toNat)
  case atStart=>exact ⟨j0,Nat.le_refl _,Or.inl rfl,by first | rfl | (rw [hmx]),Below.refl _ _,by rw [HR0.out.1,HR0.out.2]; exact own_nil w1 w1.heap.size 9⟩
  case round =>
    obtain ⟨i,hji,hio,rfl,hb,ho⟩:=hrel
    have HB:Hid (Below w1.heap.size w1 wr):=hb
    have HO:Hid (wr.ownsRow w1.heap.size 9 1 _ (RC i) (strV (RN i))):=ho
    have HIO:Hid _:=hio
    obtain ⟨Q8,d8,hqf⟩:=own_form ho
    subst hqf
    clear ho hio
    by_cases hlt:i < FL.length
    · have hi0:(0:Int) ≤ (i:Int):=by omega
      have hi1:(i:Int) < (FL.length:Int):=by omega
      by_cases hle:(i:Int) ≤ tt
      · obtain ⟨g,o,cc,hv,hc⟩:=DRow.at_ (show DRow (fun _=>True) w1 (.slice P8 FL.length k8) (strV FL) from HD.out) (j:=i) (by simpa using hlt)
        injection hv with e1 e2 e3
        subst e1 e3
        clear e2
        have hc':wr.cell? ⟨g,o + i,none⟩=some (.string FL[i]):=by
          have:=cell_on hc hb
          rw [this]; simp
        obtain ⟨f1,f2,f3⟩:=HRS.out i hlt hji
        have HF1:Hid _:=f1
        have HF2:Hid _:=f2
        have HF3:Hid _:=f3
        have hwn:IntKind.i64.wrap ((i:Int) + 1)=(i:Int) + 1:=by rw [IntKind.wrap_i64] <;> omega
        generalize FL[i]=TX at *
        obtain ⟨W2,hW2⟩:∃ W2,W2=wr.alloc (.cells #[.string TX] 9):=⟨_,rfl⟩
        have HI2:Hid (DRow (fun _=>True) W2 (.slice (some ⟨wr.heap.size,0,none⟩) 1 1) [.string TX]):=by show DRow _ _ _ _; rw [hW2]; exact drow_one _ _ _
        have hb2:Below wr.heap.size wr W2:=by rw [hW2]; exact (Below.refl _ _).alloc (Nat.le_refl _) _
        have HO2:Hid (W2.ownsRow w1.heap.size 9 1 (.slice Q8 (RC i) d8) (RC i) (strV (RN i))):=own_on HO.out hb2
        have HB2:Hid (Below w1.heap.size w1 W2):=HB.out.trans (hb2.mono HB.out.size)
        clear hb2 hb f1 f2 f3 hc
        go_upto_region 6 with fail
        go_wp2_with (at_builtin; rw [← hW2]; go_must (refine app_str rfl _ _ rfl w1.heap.size _ (RC i) (strV (RN i)) rfl HO2.out _ [.string TX] rfl HI2.out ?q9 (RC (i + 1)) ?q0 ?q1 HB2.out.size ?_))
        case q9=>intro u hu; simp at hu; subst hu; rfl
        case q0=>rw [HF2.out]; rfl
        case q1=>have:=HF3.out; omega
        intro v3 w3 ho3 hg3
        rw [← hW2] at hg3
        have HB3:Hid (Below w1.heap.size w1 w3):=HB2.out.grown hg3 HB2.out.size (fun q hq=>(World.ownsRow.lt HO2.out q hq).1)
        have HO3:Hid (w3.ownsRow w1.heap.size 9 1 v3 (RC (i + 1)) (strV (RN i) ++ [.string TX])):=ho3
        clear ho3 hg3
        go_wp2
        exact ⟨⟨i + 1,by omega,Or.inr ⟨by omega,by omega⟩,by congr 1,HB3.out,by rw [HF1.out,show strV (RN i ++ [TX])=strV (RN i) ++ [.string TX] by simp]; exact HO3.out⟩,by simp [intOf]; omega⟩
      · have hle':tt < (i:Int):=by omega
        clear hb
        go_wp2
        go_returns
        obtain ⟨q1,q2⟩:=HRE.out i hji HIO.out (Or.inr hle')
        refine ⟨_,rfl,?_,HB1.out.trans (HB.out.mono HB1.out.size)⟩
        rw [← q2,← q1]
        exact own_lower HO.out HB1.out.size
    · have hi1:¬ ((i:Int) < (FL.length:Int)):=by omega
      clear hb
      go_wp2
      go_returns
      obtain ⟨q1,q2⟩:=HRE.out i hji HIO.out (Or.inl (by omega))
      refine ⟨_,rfl,?_,HB1.out.trans (HB.out.mono HB1.out.size)⟩
      rw [← q2,← q1]
      exact own_lower HO.out HB1.out.size
end
end Go.Proofs.YtjnbjfjoejfmpaaGreatDoor
