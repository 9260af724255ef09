import Derived.Test.YtjnbjfjoejfmpaaGreatDoorWBE
import Derived.Test.YtjnbjfjoejfmpaaGreatDoorRRa
import Derived.Test.YtjnbjfjoejfmpaaGreatDoorWAW
import Derived.Deep.RegionHeld3
namespace Go.Proofs.YtjnbjfjoejfmpaaGreatDoor
open Go.RowKit Go.Shelf
set_option linter.unusedVariables false
set_option linter.unusedSimpArgs false
attribute [local go_sem] Oper.semAt_some
theorem WpB.mono {P:Program} {f0:FuncId} {c:Code} {Q Q':Exit → Act → World → Prop} {a:Act} {w:World} (h:WpB P f0 c Q a w) (hm:∀ e a' w',Q e a' w' → Q' e a' w'):WpB P f0 c Q' a w:=fun b k cs hro hb=>by
  obtain ⟨e,a',w',hq,harr⟩:=h b k cs hro hb
  exact ⟨e,a',w',hm _ _ _ hq,harr⟩
theorem wpB_cut {P:Program} {f0:FuncId} {x y:Code} {Q:Exit → Act → World → Prop} {a:Act} {w:World} (R:Act → World → Prop) (h1:x.wp P (Exit.then R (fun _ _ _=>False)) a w) (h2:∀ a' w',R a' w' → WpB P f0 y Q a' w'):WpB P f0 (Code.seq x y) Q a w:=by
  refine wpB_seq (WpB.mono (wpB_of (n:=10) (wpIn_wide.2 h1)) ?_)
  intro e a' w' h
  cases e with
  | normal=>exact h2 a' w' h
  | _=>exact h.elim
theorem bel_al {B:Nat} {w W:World} (h:Below B w W) (hB:B ≤ w.heap.size) (o:Obj):Below B w (W.alloc o):=h.alloc (Nat.le_trans hB h.size) o
theorem bel_st {B:Nat} {w W:World} {b:Nat} (h:Below B w W) (hb:B ≤ b) (i:Nat) (v:Value):Below B w (W.setCell ⟨b,i,none⟩ v):=h.setCell (p:=⟨b,i,none⟩) hb v
theorem three_rows' (X:World) (o o':Obj):((X.alloc o).alloc o').heap[X.heap.size]?=some o∧((X.alloc o).alloc o').heap[X.heap.size + 1]?=some o':=⟨(two_rows (Below.refl _ _)).2.1,(two_rows (Below.refl _ _)).2.2⟩
theorem al_r0 (X:World) (o:Obj):(X.alloc o).drew.heap[X.heap.size]?=some o:=one_alloc X o
theorem al_r1 (X:World) (o o':Obj):((X.alloc o).alloc o').drew.heap[X.heap.size]?=some o:=(three_rows' X o o').1
theorem al_r2 (X:World) (o o':Obj):((X.alloc o).alloc o').drew.heap[X.heap.size + 1]?=some o':=(three_rows' X o o').2
theorem res_seek {W:World} {S E:Nat} {z:Int} {x:Bool} {tmps:Array Value} (h2:tmps[8]?=some (.pointer (some ⟨S,0,none⟩))) (h3:tmps[9]?=some (.pointer (some ⟨E,0,none⟩)))
    (hS:W.heap[S]?=some (.cells #[.int .i64 z] 3)) (hE:W.heap[E]?=some (.cells #[.bool x] 4)) :
    (results Tryz.f86 tmps).run Tryz.prog W=.ok (.tuple #[.int .i64 z,.bool x]) W:=by
  obtain ⟨l0,lf⟩:=row1 hS
  obtain ⟨e0,ef⟩:=row1 hE
  simp [results,Tryz.results86,go_sem,l0,e0,h2,h3]
section
variable {b0 g r c:Nat} {rest:List Value} {nv:Value} {E B:Nat} {N:QM.NL}
set_option maxHeartbeats 4000000 in
set_option maxRecDepth 100000 in
theorem seek_any (i0:Nat) (hi0:i0 < N.flatten.length) (s:ByteArray) (st:Int) (hst:st ≠ 0) (hsb:-(N.flatten.length:Int) ≤ st∧st ≤ (N.flatten.length:Int)) (hl:N.flatten.length ≤ 1000) (hI:QM.Inv E B N) (w:World) (hw:Lay w) (h:LS w b0 g r c rest nv E B (nds B N)) :
    Calls Tryz.prog 86 #[ptr g,.string s,.int .i64 (i0:Int),.int .i64 st] w fun e w'=>e=.returned (fndV (fndQ N.flatten s (i0:Int) st))∧Below w.heap.size w w':=by
  have HL:Hid (LS w b0 g r c rest nv E B (nds B N)):=h
  have HW:Hid (Lay w):=hw
  have hln:N.length ≤ 1000:=Nat.le_trans (QM.len_le hI.some) hl
  obtain ⟨ht,hq,he⟩:=QM.plc_lt N i0 hi0
  have HFD:Hid (∀ W,Below w.heap.size w W → Calls Tryz.prog 50 #[ptr g,.int .i64 (i0:Int)] W fun e w'=>e=.returned (plV (QM.plc N i0).1 (QM.plc N i0).2)∧Below W.heap.size W w'):=fun W hW=>findN_any i0 hi0 hl hI W (h.on hW)
  obtain ⟨t,hte⟩:∃ t,(QM.plc N i0).1=t:=⟨_,rfl⟩
  obtain ⟨q,hqe⟩:∃ q,(QM.plc N i0).2=q:=⟨_,rfl⟩
  rw [hte,hqe] at HFD
  obtain ⟨back,hbk⟩:∃ back,decide (st < 0)=back:=⟨_,rfl⟩
  have hbk2:back=true ↔ st < 0:=by rw [← hbk]; simp
  have ht':t < N.length:=by rw [← hte]; exact ht
  have hq':q < (N[t]'ht').length:=by subst hte hqe; exact hq
  have he':(N.take t).flatten.length + q=i0:=by subst hte hqe; exact he
  obtain ⟨LT,hLT⟩:∃ LT,(N[t]'ht').length=LT:=⟨_,rfl⟩
  obtain ⟨K0,hK0⟩:∃ K0,(if back then LT - 1 - q else q)=K0:=⟨_,rfl⟩
  obtain ⟨SD,hSD⟩:∃ SD,st.natAbs=SD:=⟨_,rfl⟩
  have HK0:Hid (K0=if back then LT - 1 - q else q):=hK0.symm
  have HSD:Hid ((SD:Int)=if back then -st else st):=by
    show _=_
    cases back with
    | true=>have:=hbk2.1 rfl; simp; omega
    | false =>
      have:¬ (st < 0):=fun h=>by have:=hbk2.2 h; cases this
      simp; omega
  have HLT:Hid (q < LT∧LT ≤ 4096):=⟨by rw [← hLT]; exact hq',by rw [← hLT]; exact Nat.le_trans (hI.few _ (List.getElem_mem ht')) hI.le.2⟩
  have HND:Hid (∀ W,Below w.heap.size w W → Calls Tryz.prog 70 #[ptr g,plV t q] W fun e w'=>e=.returned (.agg #[.string (packN (N[t]'ht')),.int .i64 (LT:Int),.bool (QM.lg B (N[t]'ht'))])∧Below W.heap.size W w'):=fun W hW=>by
    have:=nodeN_any t q ht' hln W (h.on hW)
    rw [hLT] at this; exact this
  obtain ⟨FN,hFN⟩:∃ FN:Nat → Nat,∀ i,FN i=(N.take i).flatten.length:=⟨_,fun _=>rfl⟩
  obtain ⟨PQ,hPQ⟩:∃ PQ:Nat → Nat → Int,∀ j k,PQ j k=poQ FN back t j k:=⟨_,fun _ _=>rfl⟩
  obtain ⟨FQ,hFQ⟩:∃ FQ:Int → Option Int,∀ p,FQ p=fndQ N.flatten s p st:=⟨_,fun _=>rfl⟩
  obtain ⟨FR,hFR⟩:∃ FR,fndQ N.flatten s (i0:Int) st=FR:=⟨_,rfl⟩
  have HFR:Hid (FQ (i0:Int)=FR):=by show _=_; rw [hFQ,hFR]
  have HP0:Hid (PQ 0 K0=(i0:Int)):=by
    show _=_
    have h1:=HK0.out
    have h2:=HLT.out
    have h3:FN (t + 1)=FN t + LT:=by rw [hFN,hFN,takeN_snoc N t ht',List.flatten_append,List.length_append]; simp [hLT]
    have h4:FN t + q=i0:=by rw [hFN]; exact he'
    rw [hPQ]; unfold poQ
    cases back <;> simp at h1 ⊢ <;> omega
  have HPD:Hid (∀ c k,cntQ back N.length t=c → FQ (PQ c k)=none):=fun c k hc=>by
    rw [hFQ,hPQ,← hc]
    exact fndQ_out _ _ _ _ (poQ_done hFN back t k ht')
  have HKB:Hid (K0 ≤ 4096):=by
    show _ ≤ _
    have h1:=HK0.out
    have h2:=HLT.out
    cases back <;> simp at h1 <;> omega
  have HSB:Hid (0 < SD∧SD ≤ 1000):=⟨by omega,by omega⟩
  have HBD:Hid (∀ j,j < cntQ back N.length t → ∃ (PK:ByteArray) (LG:Bool) (LX:Nat) (V:List ByteArray),ndV B N (curQ back t j)=.agg #[.string PK,.int .i64 (LX:Int),.bool LG]∧PK=packN (N.getD (curQ back t j) [])∧LX=(N.getD (curQ back t j) []).length∧LG=QM.lg B (N.getD (curQ back t j) [])∧(∀ W,Lay W → Calls Tryz.prog 56 #[.agg #[.string PK,.int .i64 (LX:Int),.bool LG],.bool back] W fun e w'=>(∃ gv,e=.returned (.slice (some ⟨gv,0,none⟩) LX LX)∧w'.ownsRow W.heap.size 9 1 (.slice (some ⟨gv,0,none⟩) LX LX) LX (strV V))∧Below W.heap.size W w')∧V.length=LX∧LX ≤ 4096∧(∀ k,k < LX → IntKind.i64.wrap (PQ j k + st)=PQ j (k + SD))∧(∀ k (h:k < V.length),V[k]=s → FQ (PQ j k)=some (PQ j k))∧(∀ k (h:k < V.length),V[k] ≠ s → FQ (PQ j k)=FQ (PQ j (k + SD)))∧(∀ k',LX ≤ k' → PQ j k'=PQ (j + 1) (k' - LX))):=fun j hj=>by
    have hx:=curQ_lt ht' hj
    have hgd:=QM.getD_at N _ hx
    have hsg:st=if back then -(SD:Int) else (SD:Int):=by
      have:=HSD.out
      cases back <;> simp at this ⊢ <;> omega
    have hstep:∀ k,PQ j k + st=PQ j (k + SD):=fun k=>by rw [hPQ,hPQ]; exact poQ_step FN back t j k SD st hsg
    have hLX2:(N[curQ back t j]'hx).length ≤ 4096:=Nat.le_trans (hI.few _ (List.getElem_mem hx)) hI.le.2
    refine ⟨_,_,_,vlQ back (N[curQ back t j]'hx),rfl,rfl,rfl,rfl,?_⟩
    rw [hgd]
    refine ⟨fun W hW=>vals_any _ (fit_node hI (List.getElem_mem hx)) _ back W hW,vlQ_len _ _,hLX2,fun k hk=>?_,fun k hk he=>?_,fun k hk he=>?_,fun k' hk'=>?_⟩
    · rw [hstep]
      have h1:=poQ_bound hFN back t j (k + SD) hl
      rw [← hPQ] at h1
      have h2:=HSB.out
      rw [IntKind.wrap_i64] <;> omega
    · obtain ⟨i,hi,h1,h2⟩:=vlQ_at hFN back t j k ht' hj hx (by rw [vlQ_len] at hk; exact hk) hk
      rw [hFQ]
      refine (fndQ_all s st hst (PQ j k) i hi (by rw [hPQ]; exact h1)).1 (by rw [h2]; exact he)
    · obtain ⟨i,hi,h1,h2⟩:=vlQ_at hFN back t j k ht' hj hx (by rw [vlQ_len] at hk; exact hk) hk
      rw [hFQ,hFQ,← hstep]
      refine (fndQ_all s st hst (PQ j k) i hi (by rw [hPQ]; exact h1)).2 (by rw [h2]; exact he)
    · rw [hPQ,hPQ]; exact poQ_next hFN back t j k' ht' hj hx hk'
  rw [hFR]
  obtain ⟨W0,hW0⟩:∃ W0,W0=((((w.alloc (.cells #[.string s] 9)).alloc (.cells #[.int .i64 (i0:Int)] 3)).alloc (.cells #[.int .i64 st] 3)).alloc (.cells #[.int .i64 0] 3)).alloc (.cells #[.bool false] 4):=⟨_,rfl⟩
  obtain ⟨ks,hks⟩:∃ ks,w.heap.size=ks:=⟨_,rfl⟩
  have HKS:Hid (w.heap.size=ks):=hks
  have HB0:Hid (Below w.heap.size w W0):=by show Below _ _ _; rw [hW0]; exact bel_al (bel_al (bel_al (bel_al (bel_al (Below.refl _ w) (Nat.le_refl _) _) (Nat.le_refl _) _) (Nat.le_refl _) _) (Nat.le_refl _) _) (Nat.le_refl _) _
  have HZ0:Hid (W0.heap.size=ks + 5):=by show _=_; rw [hW0,← hks]; simp
  have HR0:Hid (W0.heap[ks]?=some (.cells #[.string s] 9)∧W0.heap[ks + 1]?=some (.cells #[.int .i64 (i0:Int)] 3)∧W0.heap[ks + 1 + 1]?=some (.cells #[.int .i64 st] 3)∧W0.heap[ks + 1 + 1 + 1]?=some (.cells #[.int .i64 0] 3)∧W0.heap[ks + 1 + 1 + 1 + 1]?=some (.cells #[.bool false] 4)):=by
    have al:∀ (X:World) (o:Obj),Below X.heap.size X (X.alloc o):=fun X o=>(Below.refl _ _).alloc (Nat.le_refl _) _
    refine ⟨?_,?_,?_,?_,?_⟩
    · rw [hW0,← hks]; exact keep_row (keep_row (keep_row (keep_row (one_alloc w _) (al _ _)) (al _ _)) (al _ _)) (al _ _)
    · rw [hW0,← hks]; refine keep_row (keep_row (keep_row ?_ (al _ _)) (al _ _)) (al _ _)
      have:=one_alloc (w.alloc (.cells #[.string s] 9)) (.cells #[.int .i64 (i0:Int)] 3)
      rwa [World.size_alloc] at this
    · rw [hW0,← hks]; refine keep_row (keep_row ?_ (al _ _)) (al _ _)
      have:=one_alloc ((w.alloc (.cells #[.string s] 9)).alloc (.cells #[.int .i64 (i0:Int)] 3)) (.cells #[.int .i64 st] 3)
      rwa [World.size_alloc,World.size_alloc] at this
    · rw [hW0,← hks]; refine keep_row ?_ (al _ _)
      have:=one_alloc (((w.alloc (.cells #[.string s] 9)).alloc (.cells #[.int .i64 (i0:Int)] 3)).alloc (.cells #[.int .i64 st] 3)) (.cells #[.int .i64 0] 3)
      rwa [World.size_alloc,World.size_alloc,World.size_alloc] at this
    · rw [hW0,← hks]
      have:=one_alloc ((((w.alloc (.cells #[.string s] 9)).alloc (.cells #[.int .i64 (i0:Int)] 3)).alloc (.cells #[.int .i64 st] 3)).alloc (.cells #[.int .i64 0] 3)) (.cells #[.bool false] 4)
      rwa [World.size_alloc,World.size_alloc,World.size_alloc,World.size_alloc] at this
  have HS:Hid (∀ W,Below W0.heap.size W0 W → W.cell? ⟨ks + 1,0,none⟩=some (.int .i64 (i0:Int))∧W.cell? ⟨ks + 1 + 1,0,none⟩=some (.int .i64 st)):=fun W hW=>⟨(row1 (keep_row HR0.out.2.1 hW)).1,(row1 (keep_row HR0.out.2.2.1 hW)).1⟩
  have HF0:Hid (∀ W,Below W0.heap.size W0 W → Calls Tryz.prog 50 #[ptr g,.int .i64 (i0:Int)] W fun e w'=>e=.returned (plV t q)∧Below W0.heap.size W0 w'):=fun W hW=>(HFD.out W (bel_to HB0.out hW (Nat.le_refl _))).mono (fun e w' hh=>⟨hh.1,bel_to hW hh.2 (Nat.le_refl _)⟩)
  have FC:∀ W,Below W0.heap.size W0 W → Calls Tryz.prog 50 #[ptr g,.int .i64 (i0:Int)] W fun e w'=>e=.returned (plV t q)∧Below W0.heap.size W0 w'∧Below W.heap.size W w':=fun W hW=>(HFD.out W (bel_to HB0.out hW (Nat.le_refl _))).mono (fun e w' hh=>⟨hh.1,bel_to hW hh.2 (Nat.le_refl _),hh.2⟩)
  have HC0:Hid (Calls Tryz.prog 50 #[ptr g,.int .i64 (i0:Int)] W0.drew fun e w'=>e=.returned (plV t q)∧Below W0.heap.size W0 w'):=(FC _ (Below.refl _ _).drew).mono (fun e w' hh=>⟨hh.1,hh.2.1⟩)
  have HCP:Hid (Calls Tryz.prog 50 #[ptr g,.int .i64 (i0:Int)] (W0.alloc (.cells #[.int .i64 0,.int .i64 0,.int .i64 0] 67)).drew fun e w'=>e=.returned (plV t q)∧Below W0.heap.size W0 w'∧w'.heap[W0.heap.size]?=some (.cells #[.int .i64 0,.int .i64 0,.int .i64 0] 67)):=(FC _ (bel_al (Below.refl _ _) (Nat.le_refl _) _).drew).mono (fun e w' hh=>⟨hh.1,hh.2.1,keep_row (al_r0 _ _) hh.2.2⟩)
  have HCB:Hid (Calls Tryz.prog 50 #[ptr g,.int .i64 (i0:Int)] (W0.alloc (.cells #[.bool false] 4)).drew fun e w'=>e=.returned (plV t q)∧Below W0.heap.size W0 w'∧w'.heap[W0.heap.size]?=some (.cells #[.bool false] 4)):=(FC _ (bel_al (Below.refl _ _) (Nat.le_refl _) _).drew).mono (fun e w' hh=>⟨hh.1,hh.2.1,keep_row (al_r0 _ _) hh.2.2⟩)
  have HCPB:Hid (Calls Tryz.prog 50 #[ptr g,.int .i64 (i0:Int)] ((W0.alloc (.cells #[.int .i64 0,.int .i64 0,.int .i64 0] 67)).alloc (.cells #[.bool false] 4)).drew fun e w'=>e=.returned (plV t q)∧Below W0.heap.size W0 w'∧w'.heap[W0.heap.size]?=some (.cells #[.int .i64 0,.int .i64 0,.int .i64 0] 67)∧w'.heap[W0.heap.size + 1]?=some (.cells #[.bool false] 4)):=(FC _ (bel_al (bel_al (Below.refl _ _) (Nat.le_refl _) _) (Nat.le_refl _) _).drew).mono (fun e w' hh=>⟨hh.1,hh.2.1,keep_row (al_r1 _ _ _) hh.2.2,keep_row (al_r2 _ _ _) hh.2.2⟩)
  have HCBP:Hid (Calls Tryz.prog 50 #[ptr g,.int .i64 (i0:Int)] ((W0.alloc (.cells #[.bool false] 4)).alloc (.cells #[.int .i64 0,.int .i64 0,.int .i64 0] 67)).drew fun e w'=>e=.returned (plV t q)∧Below W0.heap.size W0 w'∧w'.heap[W0.heap.size]?=some (.cells #[.bool false] 4)∧w'.heap[W0.heap.size + 1]?=some (.cells #[.int .i64 0,.int .i64 0,.int .i64 0] 67)):=(FC _ (bel_al (bel_al (Below.refl _ _) (Nat.le_refl _) _) (Nat.le_refl _) _).drew).mono (fun e w' hh=>⟨hh.1,hh.2.1,keep_row (al_r1 _ _ _) hh.2.2,keep_row (al_r2 _ _ _) hh.2.2⟩)
  clear FC
  clear h hw
  refine calls_of_wpB (n:=10) Tryz.func86 rfl ?_
  simp only [Tryz.ntmps86,List.size_toArray,List.length_cons,List.length_nil,Nat.reduceAdd,Nat.reduceSub,Array.replicate_succ,Array.replicate_zero,List.push_toArray,List.append_toArray,List.nil_append,List.cons_append]
  refine wpB_then (n:=10) ?_
  gi_wp2
  rw [← hW0]
  simp only [hks]
  clear hW0
  refine wpB_cut (fun a' wx=>∃ (kp kb:Nat) (u16 u17 u18 u19 u20:Value),a'={ tmps:=#[ptr g,.string s,.int .i64 (i0:Int),.int .i64 st,undef,ptr ks,ptr (ks + 1),ptr (ks + 1 + 1),ptr (ks + 1 + 1 + 1),ptr (ks + 1 + 1 + 1 + 1),ptr kp,ptr kb,undef,undef,undef,undef,u16,u17,u18,u19,u20,undef,undef,undef,undef,undef,undef,undef,undef,undef,undef,undef,undef,undef,undef,undef,undef,undef,undef,undef,undef,undef,undef,undef,undef,undef,undef,undef,undef,undef,undef,undef,undef,undef,undef,undef,undef,undef,undef,undef,undef,undef,undef,undef,undef,undef,undef,undef],defers:=[] }∧Below W0.heap.size W0 wx∧W0.heap.size ≤ kp∧W0.heap.size ≤ kb∧kp ≠ kb∧wx.heap[kp]?=some (.cells #[.int .i64 0,.int .i64 (t:Int),.int .i64 (q:Int)] 67)∧wx.heap[kb]?=some (.cells #[.bool back] 4)) ?cut1 ?rest1
  case cut1 =>
    have hS0:=HS.out W0 (Below.refl _ _)
    have hS1:=HS.out W0.drew (Below.refl _ _).drew
    have hbw:Below W0.heap.size W0 W0.drew:=(Below.refl _ _).drew
    have hne6:W0.heap.size + 1 ≠ W0.heap.size:=by omega
    have hne7:W0.heap.size ≠ W0.heap.size + 1:=by omega
    go_region_held3 (fun w':World=>w'.cell? ⟨ks + 1,0,none⟩=some (.int .i64 (i0:Int))∧w'.cell? ⟨ks + 1 + 1,0,none⟩=some (.int .i64 st))
      (first | with_reducible exact hS0 | with_reducible exact hS1 | (refine HS.out _ ?_; (repeat (first | with_reducible assumption | with_reducible exact Below.refl _ _ | with_reducible refine Below.drew ?_ | (with_reducible refine bel_al ?_ (Nat.le_refl _) _) | (with_reducible refine bel_st ?_ ?_ _ _) | (simp; done) | (simp; omega))); done))
      (first | (go_at_call 50; with_reducible refine Calls.mono HC0.out ?_; rintro e a4 ⟨rfl,hx4⟩) | (go_at_call 50; with_reducible refine Calls.mono HCP.out ?_; rintro e a4 ⟨rfl,hx4,hp4⟩; obtain ⟨p0,p1,p2,pf⟩:=row3 hp4; obtain ⟨pa0,pa1,pa2,paf⟩:=rowA3 hp4; have hlt4:=row_lt hp4; have hne4:=Nat.ne_of_gt hlt4; have hne5:=Nat.ne_of_lt hlt4) | (go_at_call 50; with_reducible refine Calls.mono HCB.out ?_; rintro e a4 ⟨rfl,hx4,hb4⟩; obtain ⟨q0,qf⟩:=row1 hb4; have qa0:=cell_a1 q0; have qaf:=fun o j=>(row1 (keep_row hb4 ((Below.refl _ a4).alloc (Nat.le_refl _) o))).2 j; have hlt4:=row_lt hb4; have hne4:=Nat.ne_of_gt hlt4; have hne5:=Nat.ne_of_lt hlt4) | (go_at_call 50; with_reducible refine Calls.mono HCPB.out ?_; rintro e a4 ⟨rfl,hx4,hp4,hb4⟩; obtain ⟨p0,p1,p2,pf⟩:=row3 hp4; obtain ⟨q0,qf⟩:=row1 hb4) | (go_at_call 50; with_reducible refine Calls.mono HCBP.out ?_; rintro e a4 ⟨rfl,hx4,hb4,hp4⟩; obtain ⟨p0,p1,p2,pf⟩:=row3 hp4; obtain ⟨q0,qf⟩:=row1 hb4))
    · refine ⟨a4.heap.size,a4.heap.size + 1,_,_,_,_,_,rfl,bel_al (bel_al hx4 (Nat.le_refl _) _) (Nat.le_refl _) _,hx4.size,Nat.le_trans hx4.size (Nat.le_succ _),by omega,(three_rows' _ _ _).1,(three_rows' _ _ _).2⟩
    · refine ⟨a4.heap.size + 1,a4.heap.size,_,_,_,_,_,rfl,bel_al (bel_al hx4 (Nat.le_refl _) _) (Nat.le_refl _) _,Nat.le_trans hx4.size (Nat.le_succ _),hx4.size,by omega,(three_rows' _ _ _).2,(three_rows' _ _ _).1⟩
    · have hg:=heap_set3 a4 W0.heap.size 67 _ _ _ (.int .i64 0) (.int .i64 (t:Int)) (.int .i64 (q:Int)) hp4
      have hr2:=one_alloc (((a4.setCell ⟨W0.heap.size,0,none⟩ (.int .i64 0)).setCell ⟨W0.heap.size,1,none⟩ (.int .i64 (t:Int))).setCell ⟨W0.heap.size,2,none⟩ (.int .i64 (q:Int))) (.cells #[.bool back] 4)
      rw [hg.2.size] at hr2
      exact ⟨W0.heap.size,a4.heap.size,_,_,_,_,_,rfl,bel_al (bel_st (bel_st (bel_st hx4 (Nat.le_refl _) _ _) (Nat.le_refl _) _ _) (Nat.le_refl _) _ _) (Nat.le_refl _) _,Nat.le_refl _,hx4.size,hne5,keep_row hg.1 ((Below.refl _ _).alloc (Nat.le_refl _) _),hr2⟩
    · have hg:=heap_set3 a4 W0.heap.size 67 _ _ _ (.int .i64 0) (.int .i64 (t:Int)) (.int .i64 (q:Int)) hp4
      refine ⟨W0.heap.size,W0.heap.size + 1,_,_,_,_,_,rfl,bel_st (bel_st (bel_st (bel_st hx4 (Nat.le_refl _) _ _) (Nat.le_refl _) _ _) (Nat.le_refl _) _ _) (Nat.le_succ _) _ _,Nat.le_refl _,Nat.le_succ _,hne7,?_,?_⟩
      · exact (heap_setCell_other _ ⟨W0.heap.size + 1,0,none⟩ _ _ (show W0.heap.size ≠ W0.heap.size + 1 from hne7)).trans hg.1
      · rw [heap_setCell_same _ _ _ _ _ _ ((hg.2.other _ hne6).trans hb4)]; rfl
    · have hr1:(a4.setCell ⟨W0.heap.size,0,none⟩ (.bool back)).heap[W0.heap.size]?=some (.cells #[.bool back] 4):=by rw [heap_setCell_same _ _ _ _ _ _ hb4]; rfl
      have hr2:=one_alloc (a4.setCell ⟨W0.heap.size,0,none⟩ (.bool back)) (.cells #[.int .i64 0,.int .i64 (t:Int),.int .i64 (q:Int)] 67)
      rw [show (a4.setCell ⟨W0.heap.size,0,none⟩ (.bool back)).heap.size=a4.heap.size by simp] at hr2
      exact ⟨a4.heap.size,W0.heap.size,_,_,_,_,_,rfl,bel_al (bel_st hx4 (Nat.le_refl _) _ _) (Nat.le_refl _) _,hx4.size,Nat.le_refl _,hne4,hr2,keep_row hr1 ((Below.refl _ _).alloc (Nat.le_refl _) _)⟩
    · have hg:=heap_set3 a4 (W0.heap.size + 1) 67 _ _ _ (.int .i64 0) (.int .i64 (t:Int)) (.int .i64 (q:Int)) hp4
      refine ⟨W0.heap.size + 1,W0.heap.size,_,_,_,_,_,rfl,bel_st (bel_st (bel_st (bel_st hx4 (Nat.le_succ _) _ _) (Nat.le_succ _) _ _) (Nat.le_succ _) _ _) (Nat.le_refl _) _ _,Nat.le_succ _,Nat.le_refl _,hne6,?_,?_⟩
      · exact (heap_setCell_other _ ⟨W0.heap.size,0,none⟩ _ _ (show W0.heap.size + 1 ≠ W0.heap.size from hne6)).trans hg.1
      · rw [heap_setCell_same _ _ _ _ _ _ ((hg.2.other _ hne7).trans hb4)]; rfl
  case rest1 =>
    rintro a' w1 ⟨kp,kb,u16,u17,u18,u19,u20,rfl,hb1,hkp,hkb,hkpb,hrp,hrb⟩
    have HB1:Hid (Below W0.heap.size W0 w1):=hb1
    have HK1:Hid (W0.heap.size ≤ kp∧W0.heap.size ≤ kb∧kp ≠ kb):=⟨hkp,hkb,hkpb⟩
    have HRP:Hid (w1.heap[kp]?=some (.cells #[.int .i64 0,.int .i64 (t:Int),.int .i64 (q:Int)] 67)):=hrp
    have HRB:Hid (w1.heap[kb]?=some (.cells #[.bool back] 4)):=hrb
    obtain ⟨p0,p1,p2,pf⟩:=row3 hrp
    have HS2:Hid (∀ W,Below w1.heap.size w1 W → W.cell? ⟨kp,2,none⟩=some (.int .i64 (q:Int))∧W.cell? ⟨ks + 1 + 1,0,none⟩=some (.int .i64 st)):=fun W hW=>⟨cell_on p2 hW,cell_on (HS.out w1 HB1.out).2 hW⟩
    clear p0 p1 p2 pf
    clear hb1 hkp hkb hkpb hrp hrb
    refine wpB_cut (fun a' wx=>∃ (kk kd:Nat) (u21 u22 u23:Value),a'={ tmps:=#[ptr g,.string s,.int .i64 (i0:Int),.int .i64 st,undef,ptr ks,ptr (ks + 1),ptr (ks + 1 + 1),ptr (ks + 1 + 1 + 1),ptr (ks + 1 + 1 + 1 + 1),ptr kp,ptr kb,ptr kk,ptr kd,undef,undef,u16,u17,u18,u19,u20,u21,u22,u23,undef,undef,undef,undef,undef,undef,undef,undef,undef,undef,undef,undef,undef,undef,undef,undef,undef,undef,undef,undef,undef,undef,undef,undef,undef,undef,undef,undef,undef,undef,undef,undef,undef,undef,undef,undef,undef,undef,undef,undef,undef,undef,undef,undef],defers:=[] }∧Below w1.heap.size w1 wx∧w1.heap.size ≤ kk∧w1.heap.size ≤ kd∧kk ≠ kd∧wx.heap[kk]?=some (.cells #[.int .i64 (q:Int)] 3)∧wx.heap[kd]?=some (.cells #[.int .i64 st] 3)) ?cut2 ?rest2
    case cut2 =>
      have hS0:=HS2.out w1 (Below.refl _ _)
      have hS1:=HS2.out w1.drew (Below.refl _ _).drew
      go_region_held3 (fun w':World=>w'.cell? ⟨kp,2,none⟩=some (.int .i64 (q:Int))∧w'.cell? ⟨ks + 1 + 1,0,none⟩=some (.int .i64 st))
        (first | with_reducible exact hS0 | with_reducible exact hS1 | (refine HS2.out _ ?_; (repeat (first | with_reducible assumption | with_reducible exact Below.refl _ _ | with_reducible refine Below.drew ?_ | (with_reducible refine bel_al ?_ (Nat.le_refl _) _) | (with_reducible refine bel_st ?_ ?_ _ _) | (simp; done) | (simp; omega))); done))
        (fail)
      · exact ⟨w1.heap.size,w1.heap.size + 1,_,_,_,rfl,(bel_al (bel_al (Below.refl _ _) (Nat.le_refl _) _) (Nat.le_refl _) _).drew,Nat.le_refl _,Nat.le_succ _,by omega,(three_rows' _ _ _).1,(three_rows' _ _ _).2⟩
      · exact ⟨w1.heap.size + 1,w1.heap.size,_,_,_,rfl,(bel_al (bel_al (Below.refl _ _) (Nat.le_refl _) _) (Nat.le_refl _) _).drew,Nat.le_succ _,Nat.le_refl _,by omega,(three_rows' _ _ _).2,(three_rows' _ _ _).1⟩
    case rest2 =>
      rintro a' w2 ⟨kk,kd,u21,u22,u23,rfl,hb2,hkk,hkd,hkkd,hrk,hrd⟩
      have HB2:Hid (Below w1.heap.size w1 w2):=hb2
      have HK2:Hid (w1.heap.size ≤ kk∧w1.heap.size ≤ kd∧kk ≠ kd):=⟨hkk,hkd,hkkd⟩
      have HRK:Hid (w2.heap[kk]?=some (.cells #[.int .i64 (q:Int)] 3)):=hrk
      have HRD:Hid (w2.heap[kd]?=some (.cells #[.int .i64 st] 3)):=hrd
      obtain ⟨y0,yf⟩:=row1 (keep_row HRB.out hb2)
      clear hb2 hkk hkd hkkd hrk hrd
      refine wpB_cut (fun a' wx=>∃ (u24 u25 u26 u27 u28 u29 u30 u31 u32 u33 u34:Value),a'={ tmps:=#[ptr g,.string s,.int .i64 (i0:Int),.int .i64 st,undef,ptr ks,ptr (ks + 1),ptr (ks + 1 + 1),ptr (ks + 1 + 1 + 1),ptr (ks + 1 + 1 + 1 + 1),ptr kp,ptr kb,ptr kk,ptr kd,undef,undef,u16,u17,u18,u19,u20,u21,u22,u23,u24,u25,u26,u27,u28,u29,u30,u31,u32,u33,u34,undef,undef,undef,undef,undef,undef,undef,undef,undef,undef,undef,undef,undef,undef,undef,undef,undef,undef,undef,undef,undef,undef,undef,undef,undef,undef,undef,undef,undef,undef,undef,undef,undef],defers:=[] }∧Below w1.heap.size w1 wx∧wx.heap[kk]?=some (.cells #[.int .i64 (K0:Int)] 3)∧wx.heap[kd]?=some (.cells #[.int .i64 (SD:Int)] 3)) ?cut3 ?rest3
      case cut3 =>
        cases back with
        | false =>
          have hk0:K0=q:=by have:=HK0.out; simpa using this
          have hsd:(SD:Int)=st:=by have:=HSD.out; simpa using this
          go_wp2
          first | exact ⟨HB2.out,HRK.out,HRD.out⟩ | exact ⟨_,_,_,_,_,_,_,_,_,_,_,rfl,HB2.out,by rw [hk0]; exact HRK.out,by rw [hsd]; exact HRD.out⟩
        | true =>
          have hk0:K0=LT - 1 - q:=by have:=HK0.out; simpa using this
          have hsd:(SD:Int)=-st:=by have:=HSD.out; simpa using this
          have hwa:IntKind.i64.wrap ((LT:Int) - 1)=(LT:Int) - 1:=by have:=HLT.out; rw [IntKind.wrap_i64] <;> omega
          have hwb:IntKind.i64.wrap ((LT:Int) - 1 - (q:Int))=(K0:Int):=by have:=HLT.out; rw [IntKind.wrap_i64] <;> omega
          have hwc:IntKind.i64.wrap (-st)=(SD:Int):=by rw [IntKind.wrap_i64] <;> omega
          have HS3:Hid (∀ W,Below w1.heap.size w1 W → W.cell? ⟨kp,0,none⟩=some (.int .i64 0)∧W.cell? ⟨kp,1,none⟩=some (.int .i64 (t:Int))∧W.cell? ⟨kp,2,none⟩=some (.int .i64 (q:Int))∧W.cell? ⟨ks + 1 + 1,0,none⟩=some (.int .i64 st)):=fun W hW=>by
            obtain ⟨p0,p1,p2,pf⟩:=row3 (keep_row HRP.out hW)
            exact ⟨p0,p1,p2,cell_on (HS.out w1 HB1.out).2 hW⟩
          have hS0:=HS3.out w2 HB2.out
          have hS1:=HS3.out w2.drew HB2.out.drew
          have hk1:=HK2.out.1
          have hk2:=HK2.out.2.1
          have hk3:=HK2.out.2.2
          have hk4:=Ne.symm hk3
          have hfld:=fldC
          clear hk0 hsd hSD hbk hbk2 hte hqe hsb hst
          go_wp2_with fail
          go_region_held3 (fun w':World=>w'.cell? ⟨kp,0,none⟩=some (.int .i64 0)∧w'.cell? ⟨kp,1,none⟩=some (.int .i64 (t:Int))∧w'.cell? ⟨kp,2,none⟩=some (.int .i64 (q:Int))∧w'.cell? ⟨ks + 1 + 1,0,none⟩=some (.int .i64 st))
            (first | with_reducible exact hS0 | with_reducible exact hS1 | with_reducible exact HS3.out _ hx5 | (refine HS3.out _ ?_; (repeat (first | with_reducible assumption | with_reducible exact Below.refl _ _ | with_reducible refine Below.drew ?_ | (with_reducible refine bel_al ?_ (Nat.le_refl _) _) | (with_reducible refine bel_st ?_ ?_ _ _) | (simp; done) | (simp; omega))); done))
            (first | (go_at_call 70; refine (show Calls _ _ _ _ _ from HND.out _ (bel_to HB0.out (bel_to HB1.out HB2.out.drew (Nat.le_refl _)) (Nat.le_refl _))).mono ?_; rintro e a5 ⟨rfl,hb5⟩; have hx5:=bel_to HB2.out.drew hb5 (Nat.le_refl _); have hrk5:=keep_row (show w2.drew.heap[kk]?=_ from HRK.out) hb5; have hrd5:=keep_row (show w2.drew.heap[kd]?=_ from HRD.out) hb5; obtain ⟨z0,zf⟩:=row1 hrk5; obtain ⟨v0,vf⟩:=row1 hrd5))
          have HF5:Hid (Below w1.heap.size w1 ((a5.setCell ⟨kk,0,none⟩ (.int .i64 (K0:Int))).setCell ⟨kd,0,none⟩ (.int .i64 (SD:Int)))∧((a5.setCell ⟨kk,0,none⟩ (.int .i64 (K0:Int))).setCell ⟨kd,0,none⟩ (.int .i64 (SD:Int))).heap[kk]?=some (.cells #[.int .i64 (K0:Int)] 3)∧((a5.setCell ⟨kk,0,none⟩ (.int .i64 (K0:Int))).setCell ⟨kd,0,none⟩ (.int .i64 (SD:Int))).heap[kd]?=some (.cells #[.int .i64 (SD:Int)] 3)):=by
            refine ⟨bel_st (bel_st hx5 hk1 _ _) hk2 _ _,?_,?_⟩
            · rw [heap_setCell_other _ ⟨kd,0,none⟩ _ _ (show kk ≠ kd from hk3),heap_setCell_same _ _ _ _ _ _ hrk5]; rfl
            · rw [heap_setCell_same _ _ _ _ _ _ ((heap_setCell_other _ ⟨kk,0,none⟩ _ _ (show kd ≠ kk from hk4)).trans hrd5)]; rfl
          clear hb5 hx5 hrk5 hrd5 z0 zf v0 vf
          go_wp2
          first | exact HF5.out | exact ⟨_,_,_,_,_,_,_,_,_,_,_,rfl,HF5.out⟩
      case rest3 =>
        rintro a' w3 ⟨u24,u25,u26,u27,u28,u29,u30,u31,u32,u33,u34,rfl,hb3,hrk3,hrd3⟩
        have HB3:Hid (Below w1.heap.size w1 w3):=hb3
        have HW3:Hid (Below W0.heap.size W0 w3):=bel_to HB1.out hb3 (Nat.le_refl _)
        have HBW3:Hid (Below w.heap.size w w3):=bel_to HB0.out HW3.out (Nat.le_refl _)
        have HK3:Hid (w3.heap[kk]?=some (.cells #[.int .i64 (K0:Int)] 3)∧w3.heap[kd]?=some (.cells #[.int .i64 (SD:Int)] 3)):=⟨hrk3,hrd3⟩
        obtain ⟨p0,p1,p2,pf⟩:=row3 (keep_row HRP.out hb3)
        obtain ⟨y0,yf⟩:=row1 (keep_row HRB.out hb3)
        clear hb3 hrk3 hrd3 hbk
        refine wpB_seq (wpB_then (n:=10) ?_)
        gi_wp2_with fail
        refine ⟨trivial,(callsIn_wide.2 (walkQ_any t q back w3 (HL.out.on HBW3.out))).mono ?_⟩
        rintro e w7 ⟨rfl,hx7,hb7⟩
        obtain ⟨bx,hbx⟩:∃ bx,w3.heap.size=bx:=⟨_,rfl⟩
        rw [hbx] at hx7 ⊢
        have HX7:Hid (WB b0 g r c rest nv E B N t q bx back w7):=hx7
        have HBX:Hid (w3.heap.size=bx):=hbx
        have HW7:Hid (Below W0.heap.size W0 w7):=bel_to HW3.out hb7 (Nat.le_refl _)
        have HBW7:Hid (Below w.heap.size w w7):=bel_to HB0.out HW7.out (Nat.le_refl _)
        have HSK7:Hid (SK g t q ks (ks + 1) (ks + 1 + 1) (ks + 1 + 1 + 1) (ks + 1 + 1 + 1 + 1) kb kk kd bx s (i0:Int) st back K0 SD w w7):=by
          obtain ⟨r0,r1,r2,r3,r4⟩:=HR0.out
          exact ⟨keep_row r0 HW7.out,keep_row r1 HW7.out,keep_row r2 HW7.out,keep_row r3 HW7.out,keep_row r4 HW7.out,keep_row (keep_row HRB.out HB3.out) hb7,keep_row HK3.out.1 hb7,keep_row HK3.out.2 hb7,hx7.x0,hx7.x1,hx7.x2,HBW7.out⟩
        have HOR:Hid (ks < ks + 1∧ks + 1 < ks + 1 + 1∧ks + 1 + 1 < ks + 1 + 1 + 1∧ks + 1 + 1 + 1 < ks + 1 + 1 + 1 + 1∧ks + 1 + 1 + 1 + 1 < kb∧kb < kk∧kb < kd∧kk ≠ kd∧kk < bx∧kd < bx∧w.heap.size ≤ ks):=by
          have h1:=HZ0.out
          have h2:=HK1.out
          have h3:=HK2.out
          have h4:=row_lt HRB.out
          have h5:=row_lt HK3.out.1
          have h6:=row_lt HK3.out.2
          have h7:=HBX.out
          refine ⟨by omega,by omega,by omega,by omega,by omega,by omega,by omega,h3.2.2,by omega,by omega,by omega⟩
        have HBB:Hid (bx + 1 + 1 < w7.heap.size):=row_lt hx7.x2
        clear hx7 hb7 hbx p0 p1 p2 pf y0 yf
        gi_wp2
        refine wpB_block ?_
        have HSQ:Hid _:=walkQ_seq (b0:=b0) (g:=g) (r:=r) (c:=c) (rest:=rest) (nv:=nv) (E:=E) (B:=B) (N:=N) 9 t q bx w7.heap.size back pch ht' hln
        obtain ⟨cnt,hcnt⟩:∃ cnt,cntQ back N.length t=cnt:=⟨_,rfl⟩
        rw [hcnt] at HSQ
        refine WpB_act (fun a0 ha0=>?_)
        refine wpB_range (n:=10) (α:=Nat) (encs:=fun i=>#[ndV B N i]) (L:=wkQ back t cnt) (bad:=false) (pch:=pch) (box:=WB b0 g r c rest nv E B N t q bx back) Tryz.func86 (gf:=90) (lb:=#[ptr (bx + 1),ptr bx,ptr (bx + 1 + 1)]) (by rw [ha0]; rfl) (enters_of Tryz.func90 (by kernel_rfl) rfl) HSQ.out (fun _=>rfl)
          (fun pre W=>∃ k:Nat,k ≤ 10000∧SK g t q ks (ks + 1) (ks + 1 + 1) (ks + 1 + 1 + 1) (ks + 1 + 1 + 1 + 1) kb kk kd bx s (PQ pre.length k) st back k SD w W∧FQ (PQ pre.length k)=FR∧w7.heap.size ≤ W.heap.size)
          (fun cd pre W=>cd=.ret∧∃ i',FR=some i'∧W.heap[ks + 1 + 1 + 1]?=some (.cells #[.int .i64 i'] 3)∧W.heap[ks + 1 + 1 + 1 + 1]?=some (.cells #[.bool true] 4)∧Below w.heap.size w W)
          (fun _=>False)
          ?hI ?hIx (fun _ _ _ _ hs _ _=>hs) ?hbox ?h0
          (fun (x:Nat) (a':Act) (W:World)=>∃ kn:Nat,a'={ tmps:=(a0.tmps.setIfInBounds 39 (ndV B N x)).setIfInBounds 14 (.pointer (some ⟨kn,0,none⟩)),defers:=[] }∧w7.heap.size ≤ kn∧W.heap[kn]?=some (.cells #[.string (packN (N.getD x [])),.int .i64 ((N.getD x []).length:Int),.bool (QM.lg B (N.getD x []))] 57)) ?hAx ?assign ?body ?done ?stop ?pan
        case hI =>
          rintro s A B row ⟨k,h1,⟨r1,r2,r3,r4,r5,r6,r7,r8,r9,r10,r11,r12⟩,h3,h4⟩ hg hr
          exact ⟨k,h1,⟨own_row r1 hg hr,own_row r2 hg hr,own_row r3 hg hr,own_row r4 hg hr,own_row r5 hg hr,own_row r6 hg hr,own_row r7 hg hr,own_row r8 hg hr,own_row r9 hg hr,own_row r10 hg hr,own_row r11 hg hr,ownFrom_below (β:=Unit) (Nat.le_refl _) HBW7.out.size () A B row r12 hg hr⟩,h3,Nat.le_trans h4 hg.size⟩
        case hIx =>
          rintro cd s A B row ⟨h1,i',h2,h3,h4,h5⟩ hg hr
          exact ⟨h1,i',h2,own_row h3 hg hr,own_row h4 hg hr,ownFrom_below (β:=Unit) (Nat.le_refl _) HBW7.out.size () A B row h5 hg hr⟩
        case hbox =>
          rintro pre W ⟨k,_,h1,_⟩
          exact ⟨h1.x0,h1.x1,h1.x2,HL.out.on h1.bel⟩
        case h0 =>
          refine ⟨K0,by have:=HKB.out; omega,?_,?_,Nat.le_refl _⟩
          · rw [List.length_nil,HP0.out]; exact HSK7.out
          · rw [List.length_nil,HP0.out]; exact HFR.out
        case hAx =>
          rintro x a' s A B row ⟨kn,h1,h2,h3⟩ hg hr
          exact ⟨kn,h1,h2,own_row h3 hg hr⟩
        case pan=>intro D W _ h; rcases h with h | ⟨h,_⟩; exact h.elim; cases h
        case assign =>
          rintro ll pre x W K hpre ⟨k,_,_,_,hsz⟩ hK
          have HKK:Hid _:=hK
          have HZZ:Hid (w7.heap.size ≤ W.heap.size):=hsz
          clear hK hsz
          have HA0:Hid _:=ha0
          rw [ha0]
          unfold ndV
          simp only [List.zip_toArray,List.zip_cons_cons,List.zip_nil_right,List.foldl_toArray,List.foldl_cons,List.foldl_nil,List.setIfInBounds_toArray,List.set_cons_zero,List.set_cons_succ]
          clear ha0
          gi_wp2
          refine HKK.out _ _ ((Below.refl _ W).alloc (Nat.le_refl _) _) ⟨W.heap.size,?_,HZZ.out,?_⟩
          · rw [HA0.out]; rfl
          · exact one_alloc W _
        case stop =>
          rintro D cd pre W hD hpre ⟨rfl,i',hfr,hr,he,hb⟩ hDr
          rw [ha0]
          refine wpB_of (n:=10) ?_
          gi_wp2
          refine ⟨by simp,.inl ⟨_,_,rfl,run_takeDeferred hDr,?_⟩⟩
          have h1:ks + 1 + 1 + 1 ≠ D:=by rintro rfl; rw [hr] at hDr; cases hDr
          have h2:ks + 1 + 1 + 1 + 1 ≠ D:=by rintro rfl; rw [he] at hDr; cases hDr
          refine ⟨_,res_seek rfl rfl (put_keep hr h1) (put_keep he h2),?_,by rw [← HKS.out]; exact put_below hb (by have:=HBW7.out.size; omega)⟩
          first | rfl | (rw [hfr]; rfl)
        case done =>
          rintro D W hD _ ⟨k,_,hS,hfq,_⟩ hDr
          have hwl:(wkQ back t cnt).length=cnt:=by simp [wkQ]
          rw [hwl] at hfq
          have HFN0:Hid (FR=none):=by show _=_; rw [← hfq]; exact HPD.out cnt k hcnt
          rw [ha0]
          obtain ⟨z0,zf⟩:=row1 hS.h0
          obtain ⟨v0,vf⟩:=row1 hS.h1
          have HR3:Hid (W.heap[ks + 1 + 1 + 1]?=some (.cells #[.int .i64 0] 3)):=hS.h0
          have HR4:Hid (W.heap[ks + 1 + 1 + 1 + 1]?=some (.cells #[.bool false] 4)):=hS.h1
          have HB:Hid (Below w.heap.size w W):=hS.bel
          have HDR:Hid _:=hDr
          clear ha0 hS hfq hDr
          refine wpB_then (n:=10) ?_
          gi_wp2
          refine wpB_of (n:=10) ?_
          gi_wp2
          have h1:ks + 1 + 1 + 1 ≠ D:=by rintro rfl; have:=HDR.out; rw [HR3.out] at this; cases this
          have h2:ks + 1 + 1 + 1 + 1 ≠ D:=by rintro rfl; have:=HDR.out; rw [HR4.out] at this; cases this
          obtain ⟨W6,hW6⟩:∃ W6,((W.setCell ⟨ks + 1 + 1 + 1,0,none⟩ (.int .i64 0)).setCell ⟨ks + 1 + 1 + 1 + 1,0,none⟩ (.bool false))=W6:=⟨_,rfl⟩
          have hd2:W6.heap[D]?=some (.deferred (some [])):=by rw [← hW6]; exact (heap_setCell_other _ _ _ _ (fun e=>h2 e.symm)).trans ((heap_setCell_other _ _ _ _ (fun e=>h1 e.symm)).trans HDR.out)
          have hs6:W6.heap[ks + 1 + 1 + 1]?=some (.cells #[.int .i64 0] 3):=by rw [← hW6,heap_setCell_other _ _ _ _ (show ks + 1 + 1 + 1 ≠ ks + 1 + 1 + 1 + 1 by omega),heap_setCell_same _ _ _ _ _ _ HR3.out]; rfl
          have he6:W6.heap[ks + 1 + 1 + 1 + 1]?=some (.cells #[.bool false] 4):=by rw [← hW6,heap_setCell_same _ _ _ _ _ _ ((heap_setCell_other _ _ _ _ (show ks + 1 + 1 + 1 + 1 ≠ ks + 1 + 1 + 1 by omega)).trans HR4.out)]; rfl
          have hb6:Below w.heap.size w W6:=by
            have:=HKS.out
            rw [← hW6]; exact bel_st (bel_st HB.out (by omega) _ _) (by omega) _ _
          rw [hW6]
          refine ⟨by simp,.inl ⟨_,_,rfl,run_takeDeferred hd2,?_⟩⟩
          refine ⟨_,res_seek rfl rfl (put_keep hs6 h1) (put_keep he6 h2),?_,by rw [← HKS.out]; exact put_below hb6 (by have:=HBW7.out.size; omega)⟩
          rw [HFN0.out]; rfl
        case body =>
          rintro ll pre x a' W hll hpre ⟨k,hk,hS,hfq,hsz⟩ ⟨kn,ha',hkn,hrow⟩
          obtain ⟨hj,hx⟩:=wkQ_pre hpre
          subst hx
          obtain ⟨PK,LG,LX,V,e1,e2,e3,e4,e5,e6,e7,e8,e9,e10,e11⟩:=HBD.out pre.length (by rw [hcnt]; exact hj)
          rw [← e2,← e3,← e4] at hrow
          rw [e1] at ha'
          subst ha'
          subst ha0
          have hl2:(pre ++ [curQ back t pre.length]).length=pre.length + 1:=by simp
          refine seek_body 8 ll w7.heap.size g t q ks (ks + 1) (ks + 1 + 1) (ks + 1 + 1 + 1) (ks + 1 + 1 + 1 + 1) kb kk kd bx kn LX SD k (PQ pre.length k) st back s PK LG V w W _ _ _ _ FQ FR (PQ pre.length) _ _ _ _ _ _ _ _ _ _ _ _ _ _ _ _ _ _ _ _ _ _ _ _ _ _ _ _ _ _ _ _ _ _ _ _ _ _ _ _ _ _ _ _ _ _ _ _ _ _ _ _ _ _ _ _ _ _ _ hS HOR.out HBB.out hkn hsz rfl hfq hrow (e5 W (HW.out.on hS.bel)) e6 e7 HSB.out hk e8 e9 e10 ?_ ?_
          · intro k' W' h1 h2 h3 h4 h5
            have hsb2:=HSB.out
            refine ⟨k' - LX,by omega,?_,?_,h5⟩
            · rw [hl2,← e11 k' h1]; exact h4
            · rw [hl2,← e11 k' h1]; exact h3
          · intro i' W' h1 h2 h3 h4
            exact ⟨rfl,i',h1,h2,h3,h4⟩
end
end Go.Proofs.YtjnbjfjoejfmpaaGreatDoor
