import Derived.Test.YtbgbmfmgdgalbaaGreatDoorM06
import Derived.Test.YtbgbmfmgdgalbaaGreatDoorM00
import Derived.Lib.Builder
import Derived.Lib.MakeNoZero
import Derived.Lib.UnsafeStr
import Derived.Laws.Externs
import Derived.Laws.IdiomCopy
namespace Go.Proofs.YtbgbmfmgdgalbaaGreatDoor
open Go.RowKit
set_option linter.unusedVariables false
set_option linter.unusedSimpArgs false
set_option maxHeartbeats 2000000 in
set_option maxRecDepth 20000 in
theorem read_any (s:Fs) (V:FV) (n:ByteArray) (hb:Bd s) (hn:n.size ≤ 140737488355328) (hx:findM s.dir n < (s.files.length:Int)) (w:World) (h:FsAt s V w):Calls Tryz.prog 92 #[.agg (fsC s V),.string n] w fun e w'=>e=.returned (.tuple #[.string (readM s n).1,.int .i64 (readM s n).2])∧Below w.heap.size w w':=by
  obtain ⟨W0,hW0⟩:∃ W0,W0=w.alloc (.cells (fsC s V) 61):=⟨_,rfl⟩
  have hB0:Below w.heap.size w W0:=by rw [hW0]; exact (Below.refl _ _).alloc (Nat.le_refl _) _
  have hX0:W0.heap[w.heap.size]?=some (.cells (fsC s V) 61):=by rw [hW0]; exact one_alloc _ _
  obtain ⟨r,hr⟩:∃ r,w.heap.size=r:=⟨_,rfl⟩
  have HR:Hid (w.heap.size=r):=hr
  have HB:Hid (Below w.heap.size w W0):=hB0
  have HF:Hid (FsAt s V W0):=h.on hB0
  rw [hr] at hX0
  have HX:Hid (W0.heap[r]?=some (.cells (fsC s V) 61)):=hX0
  have HBD:Hid (Bd s):=hb
  have HIX:Hid (findM s.dir n < (s.files.length:Int)):=hx
  have HHS:Hid (Calls Tryz.prog 102 #[.agg (fsC s V),.string n] W0 fun e w'=>e=.returned (.int .i64 (hasM s n))∧Below W0.heap.size W0 w'):=has_any s V n hb hn W0 (h.on hB0)
  rw [show fsC s V=#[.bool s.down,.int .i64 (s.steps:Int),V.f,V.d,V.s,V.c,V.p,.int .i64 s.crash,V.k] from rfl] at hW0
  rw [show fsC s V=#[.bool s.down,.int .i64 (s.steps:Int),V.f,V.d,V.s,V.c,V.p,.int .i64 s.crash,V.k] from rfl]
  clear hX0 hB0 h hb hr hx hn
  go_enter Tryz.func92,Tryz.ntmps92
  go_upto_region 1 with fail
  rw [← hW0,HR.out]
  clear hW0
  go_wp2_with (refine ldF (fsC s V) r _ rfl rfl rfl HX.out rfl ?_)
  refine (show Calls _ _ _ _ _ from HHS.out).mono ?_
  rintro e wh ⟨rfl,hbh⟩
  have HBH:Hid (Below W0.heap.size W0 wh):=hbh
  clear hbh
  obtain ⟨eh,heh⟩:∃ eh,hasM s n=eh:=⟨_,rfl⟩
  rw [heh]
  by_cases h0:eh=0
  · have HH:Hid (hasM s n=0):=by show _=_; rw [heh,h0]
    subst h0
    clear heh
    obtain ⟨i,hfi⟩:∃ i:Nat,findM s.dir n=(i:Int):=⟨(findM s.dir n).toNat,by have:=has_pos HH.out; omega⟩
    have hi1:i < s.files.length:=by have:=HIX.out; omega
    have hf:=HF.out.on HBH.out
    have HFD:Hid (∀ W,KR slE W V.d s.dir → Calls Tryz.prog 99 #[V.d,.string n] W fun e w'=>e=.returned (.int .i64 (i:Int))∧w'=W):=fun W hk=>by rw [← hfi]; exact r_find_any V.d s.dir (by have:=HBD.out.dd; omega) n W hk
    obtain ⟨g,o,kf,hvf,hcf⟩:=hf.qf.cell fiOk hi1
    obtain ⟨x,hxx⟩:∃ x,s.files[i]'hi1=x:=⟨_,rfl⟩
    rw [hxx] at hcf
    obtain ⟨X,S0⟩:=x
    have HC0:Hid (wh.cell? ⟨g,o + i * 2,none⟩=some (.string X)):=hcf 0 _ rfl
    have hz0:(0:Int) ≤ (i:Int):=by omega
    have hz1:(i:Int) < (s.files.length:Int):=by omega
    have HV:Hid (readM s n=(X,0)):=by show _=_; unfold readM; rw [if_pos HH.out,hfi,Int.toNat_natCast,getFi hi1 hxx]
    have HKD:Hid (KR slE wh V.d s.dir):=hf.qd
    have HRW:Hid (wh.heap[r]?=some (.cells (fsC s V) 61)):=keep_row HX.out HBH.out
    have HVF:Hid (V.f=.slice (some ⟨g,o,none⟩) s.files.length kf):=hvf
    clear hfi hf hcf hxx hvf hi1
    go_upto_region 4 with fail
    have hcur:Below wh.heap.size wh wh.drew:=(Below.refl _ wh).drew
    have HKS:Hid (∀ W,Below wh.heap.size wh W → (W.cell? ⟨r,2,none⟩=some (.slice (some ⟨g,o,none⟩) s.files.length kf)∧W.cell? ⟨r,3,none⟩=some V.d∧W.cell? ⟨g,o + i * 2,none⟩=some (.string X))):=fun W hW=>by
      have h1:=keep_row HRW.out hW
      exact ⟨by rw [cellC h1,← HVF.out]; rfl,by rw [cellC h1]; rfl,cell_on HC0.out hW⟩
    have HKA:Hid (KR slE wh.drew V.d s.dir):=HKD.out.on hcur
    go_region_held3 (fun W:World=>W.cell? ⟨r,2,none⟩=some (.slice (some ⟨g,o,none⟩) s.files.length kf)∧W.cell? ⟨r,3,none⟩=some V.d∧W.cell? ⟨g,o + i * 2,none⟩=some (.string X))
      (exact HKS.out _ hcur)
      (first | (go_at_call 99; refine (show Calls _ _ _ _ _ from HFD.out _ HKA.out).mono ?_; rintro e a1 ⟨rfl,rfl⟩))
    have HWB:Hid (Below wh.heap.size wh wh.drew):=hcur
    clear hcur
    generalize wh.drew=WB at *
    go_wp2
    refine bodyPost_ret (v:=.tuple #[.string X,.int .i64 0]) (by simp [results,Tryz.results92,asAddr,Act.put,Result.andThen]) rfl ?_
    rw [HV.out]
    exact ⟨rfl,(HB.out.trans (HBH.out.mono HB.out.size)).trans (HWB.out.mono (HB.out.trans (HBH.out.mono HB.out.size)).size)⟩
  · have HV:Hid (readM s n=(⟨#[]⟩,eh)):=by show _=_; unfold readM; rw [if_neg (by rw [heh]; exact h0),heh]
    have heb:(eh != 0)=true:=bne_iff_ne.mpr h0
    clear h0 heh
    go_wp2
    refine bodyPost_ret (v:=.tuple #[.string ⟨#[]⟩,.int .i64 eh]) (by simp [results,Tryz.results92,asAddr,Act.put,Result.andThen]) rfl ?_
    rw [HV.out]
    exact ⟨rfl,HB.out.trans (HBH.out.mono HB.out.size)⟩
end Go.Proofs.YtbgbmfmgdgalbaaGreatDoor
namespace Go.Proofs.YtbgbmfmgdgalbaaGreatDoor
open Go.RowKit
set_option linter.unusedVariables false
set_option linter.unusedSimpArgs false
section
variable {α:Type} {E:ET α}
theorem step_app1 (ok:ETok E) {w:World} {ops:Array Oper} {o:Oper} {a:Act} {K:Act → World → Prop} {Q:Exit → Act → World → Prop} {E0:Prop} (cs:Array Value) (x1:α) (hcs:cs.toList=E.enc x1) (hg:o.guard=none) (s x:Operand)
    (hop:o.op=Op.call { callee:=Callee.builtin Builtin.append,args:=#[s,x],argTypes:=#[E.ST,E.ST] })
    (b:Nat) (v:Value) (xs:List α) (hs:a.eval s=v) (hown:w.ownsRow b E.T E.k v xs.length (E.fl xs)) (B:Nat) (hx:a.eval x=.slice (some ⟨B,0,none⟩) 1 1) (hB:w.heap[B]?=some (.cells cs E.T)) (hl:xs.length + 1 ≤ maxLen) (hby:(xs.length + 1) * E.by_ ≤ 140737488355328) (hb:b ≤ w.heap.size)
    (h:∀ v' w',w'.ownsRow b E.T E.k v' (xs.length + 1) (E.fl (xs ++ [x1])) → Below b w w' → K (a.put o.dst v') w') :
    if Region.wanted o (yielded ops a.tmps)=true then Oper.wp Tryz.prog o a w K Q else E0:=by
  have hw:Region.wanted o (yielded ops a.tmps)=true:=by simp [Region.wanted,hg]
  rw [if_pos hw]
  obtain ⟨i0,hi,hz0,hz1,hz2⟩:=info_of ok.inf
  have hfl:E.fl [x1]=cs.toList:=by simp [ET.fl,hcs]
  obtain ⟨v',w',hrun,h2,h3,h4,h5⟩:=run_append_own_at (P:=Tryz.prog) w b E.ST o.type E.T i0 E.z E.k E.by_ ok.und hi hz0 hz1 hz2 ok.zc ok.kp v xs.length (E.fl xs) hown ⟨B,0,none⟩ 1 1 (E.fl [x1]) (ET.fl_len ok [x1]) (fun j u hu=>by
    rw [Lib.add_plain,Nat.zero_add,cell_of_row _ _ _ _ _ _ hB]; rw [hfl] at hu; simpa using hu) (ET.fl_one ok [x1]) hl hby hb
  unfold Oper.wp
  simp [execOp,hop,resolve,invoke,builtin,hs,hx,hrun,Result.andThen]
  exact h v' w' (by rw [ET.fl_app]; exact h2) ((Below.refl b w).grown h3 hb (fun q hq=>(World.ownsRow.lt hown q hq).1))
end
end Go.Proofs.YtbgbmfmgdgalbaaGreatDoor
namespace Go.Proofs.YtbgbmfmgdgalbaaGreatDoor
open Go.RowKit
set_option linter.unusedVariables false
set_option linter.unusedSimpArgs false
set_option maxHeartbeats 4000000 in
set_option maxRecDepth 20000 in
theorem now_any (s:Fs) (V:FV) (hb:Bd s) (hin:∀ x ∈ s.dir,0 ≤ x.2∧x.2 < (s.files.length:Int)) (w:World) (h:FsAt s V w):Calls Tryz.prog 28 #[.agg (fsC s V)] w fun e w'=>∃ v,e=.returned v∧KR paE w' v (nowM s)∧NB (fun k=>k < w.heap.size) v∧Below w.heap.size w w':=by
  obtain ⟨W0,hW0⟩:∃ W0,W0=w.alloc (.cells (fsC s V) 61):=⟨_,rfl⟩
  have hB0:Below w.heap.size w W0:=by rw [hW0]; exact (Below.refl _ _).alloc (Nat.le_refl _) _
  have hX0:W0.heap[w.heap.size]?=some (.cells (fsC s V) 61):=by rw [hW0]; exact one_alloc _ _
  obtain ⟨r,hr⟩:∃ r,w.heap.size=r:=⟨_,rfl⟩
  have HR:Hid (w.heap.size=r):=hr
  have HB:Hid (Below w.heap.size w W0):=hB0
  have HF:Hid (FsAt s V W0):=h.on hB0
  rw [hr] at hX0
  have HX:Hid (W0.heap[r]?=some (.cells (fsC s V) 61)):=hX0
  have HDL:Hid (s.dir.length ≤ 1099511627770):=hb.dd
  have HIN:Hid (∀ x ∈ s.dir,0 ≤ x.2∧x.2 < (s.files.length:Int)):=hin
  rw [show fsC s V=#[.bool s.down,.int .i64 (s.steps:Int),V.f,V.d,V.s,V.c,V.p,.int .i64 s.crash,V.k] from rfl] at hW0
  rw [show fsC s V=#[.bool s.down,.int .i64 (s.steps:Int),V.f,V.d,V.s,V.c,V.p,.int .i64 s.crash,V.k] from rfl]
  clear hX0 hB0 h hb hr hin
  go_enter Tryz.func28,Tryz.ntmps28
  go_upto_region 1 with fail
  rw [← hW0,HR.out]
  clear hW0
  obtain ⟨Pd,kd,hvd⟩:=HF.out.qd.form
  have HVD:Hid (V.d=.slice Pd s.dir.length kd):=hvd
  obtain ⟨Pf,kf,hvf⟩:=HF.out.qf.form
  have HVF:Hid (V.f=.slice Pf s.files.length kf):=hvf
  clear hvd hvf
  have HO0:Hid (W0.ownsRow W0.heap.size paE.T paE.k (.slice none 0 0) 0 (paE.fl [])):=⟨rfl,Or.inl ⟨rfl,rfl⟩⟩
  go_wp2
  go_loopw [3,4] (fun co ci wx=>∃ (j:Nat) (xs:List (ByteArray × ByteArray)) (Pv:Option Addr) (cv:Nat),j ≤ s.dir.length∧ci=.int .i64 (j:Int)∧co=.slice Pv xs.length cv∧(s.dir.take j).map (fun x=>(x.1,(s.files.getD x.2.toNat ⟨⟨#[]⟩,0⟩).d))=xs∧xs.length=j∧wx.ownsRow W0.heap.size paE.T paE.k (.slice Pv xs.length cv) xs.length (paE.fl xs)∧Below W0.heap.size W0 wx) (fun _ ci _=>s.dir.length - (intOf ci).toNat)
  case atStart=>exact ⟨0,[],none,0,Nat.zero_le _,rfl,rfl,rfl,rfl,HO0.out,Below.refl _ _⟩
  case round =>
    obtain ⟨j,xs,Pv,cv,hj,rfl,rfl,hdf,hxl,hown,hbx⟩:=hrel
    have HOW:Hid (wr.ownsRow W0.heap.size paE.T paE.k (.slice Pv xs.length cv) xs.length (paE.fl xs)):=hown
    have HBX:Hid (Below W0.heap.size W0 wr):=hbx
    have hrw:=keep_row HX.out hbx
    obtain ⟨x0,x1,x2,x3,x4,x5,x6,x7,x8,xf⟩:=row9 (v0:=.bool s.down) (v1:=.int .i64 (s.steps:Int)) (v2:=V.f) (v3:=V.d) (v4:=V.s) (v5:=V.c) (v6:=V.p) (v7:=.int .i64 s.crash) (v8:=V.k) hrw
    rw [HVD.out] at x3
    clear hrw hown
    by_cases hlt:j < s.dir.length
    · have hk:=HF.out.qd
      rw [HVD.out] at hk
      obtain ⟨g,o,c',he,hc⟩:=hk.cell slOk hlt
      injection he with he1 _ he2
      subst he1
      have htk:(s.dir.take (j + 1)).map (fun x=>(x.1,(s.files.getD x.2.toNat ⟨⟨#[]⟩,0⟩).d))=xs ++ [((s.dir[j]'hlt).1,(s.files.getD (s.dir[j]'hlt).2.toNat ⟨⟨#[]⟩,0⟩).d)]:=by rw [← List.take_append_getElem hlt,List.map_append,hdf]; rfl
      have hin:=HIN.out (s.dir[j]'hlt) (List.getElem_mem hlt)
      obtain ⟨y,hy⟩:∃ y,s.dir[j]'hlt=y:=⟨_,rfl⟩
      rw [hy] at hc htk hin
      obtain ⟨X,Y⟩:=y
      obtain ⟨i,hi⟩:∃ i:Nat,Y=(i:Int):=⟨Y.toNat,by have:=hin.1; simp only at this; omega⟩
      subst hi
      have hi1:i < s.files.length:=by have:=hin.2; simp only at this; omega
      have hkf:=HF.out.qf
      rw [HVF.out] at hkf
      obtain ⟨gf,of,cf,hef,hcf⟩:=hkf.cell fiOk hi1
      injection hef with he3 _ he4
      subst he3
      obtain ⟨z,hz⟩:∃ z,s.files[i]'hi1=z:=⟨_,rfl⟩
      rw [hz] at hcf
      obtain ⟨D,S0⟩:=z
      have HTK:Hid ((s.dir.take (j + 1)).map (fun x=>(x.1,(s.files.getD x.2.toNat ⟨⟨#[]⟩,0⟩).d))=xs ++ [(X,D)]):=by
        show _=_
        rw [htk]
        simp only [Int.toNat_natCast]
        rw [getFi hi1 hz]
      have hz0:(0:Int) ≤ (j:Int):=by omega
      have hz1:(j:Int) < (s.dir.length:Int):=by omega
      have hy0:(0:Int) ≤ (i:Int):=by omega
      have hy1:(i:Int) < (s.files.length:Int):=by omega
      have hdl:=HDL.out
      have hiw:IntKind.i64.wrap ((j:Int) + 1)=(j:Int) + 1:=by rw [IntKind.wrap_i64] <;> omega
      have HIW:Hid (IntKind.i64.wrap ((j:Int) + 1)=(j:Int) + 1):=hiw
      have HI:Hid (j + 1 ≤ s.dir.length):=hlt
      have HXL:Hid (xs.length=j):=hxl
      have HC0:Hid (W0.cell? ⟨g,o + j * 2,none⟩=some (.string X)):=hc 0 _ rfl
      have HC1:Hid (W0.cell? ⟨g,o + j * 2 + 1,none⟩=some (.int .i64 (i:Int))):=hc 1 _ rfl
      have HC2:Hid (W0.cell? ⟨gf,of + i * 2,none⟩=some (.string D)):=hcf 0 _ rfl
      clear hk hc he2 hdf htk hxl hdl hbx hy hin hkf hcf he4 hz hi1 hiw
      go_upto_region 5 with fail
      clear x0 x1 x2 x3 x4 x5 x6 x7 x8 xf
      have hcur:Below W0.heap.size W0 wr.drew:=HBX.out.trans (Below.refl _ wr).drew
      have HKS:Hid (∀ W,Below W0.heap.size W0 W → (W.cell? ⟨r,2,none⟩=some (.slice (some ⟨gf,of,none⟩) s.files.length kf)∧W.cell? ⟨r,3,none⟩=some (.slice (some ⟨g,o,none⟩) s.dir.length kd)∧W.cell? ⟨g,o + j * 2,none⟩=some (.string X)∧W.cell? ⟨g,o + j * 2 + 1,none⟩=some (.int .i64 (i:Int))∧W.cell? ⟨gf,of + i * 2,none⟩=some (.string D))):=fun W hW=>by
        have h1:=keep_row HX.out hW
        exact ⟨by rw [cellC h1,← HVF.out]; rfl,by rw [cellC h1,← HVD.out]; rfl,cell_on HC0.out hW,cell_on HC1.out hW,cell_on HC2.out hW⟩
      have hOD:=own_keep (w':=wr.drew) HOW.out (fun q _ hq=>rfl)
      have HOD:Hid (wr.drew.ownsRow W0.heap.size paE.T paE.k (.slice Pv xs.length cv) xs.length (paE.fl xs)):=hOD
      clear hOD
      have hcA:Below W0.heap.size W0 (wr.drew.alloc (.cells #[.string X,.string D] paE.T)):=hcur.alloc hcur.size _
      have HOA:Hid ((wr.drew.alloc (.cells #[.string X,.string D] paE.T)).ownsRow W0.heap.size paE.T paE.k (.slice Pv xs.length cv) xs.length (paE.fl xs)):=own_keep HOD.out (fun q _ hq=>((Below.refl wr.drew.heap.size wr.drew).alloc (Nat.le_refl _) _).block q hq)
      go_region_held3 (fun W:World=>W.cell? ⟨r,2,none⟩=some (.slice (some ⟨gf,of,none⟩) s.files.length kf)∧W.cell? ⟨r,3,none⟩=some (.slice (some ⟨g,o,none⟩) s.dir.length kd)∧W.cell? ⟨g,o + j * 2,none⟩=some (.string X)∧W.cell? ⟨g,o + j * 2 + 1,none⟩=some (.int .i64 (i:Int))∧W.cell? ⟨gf,of + i * 2,none⟩=some (.string D))
        (first | exact HKS.out _ hcur | exact HKS.out _ hcA | exact HKS.out _ hb9)
        (first | (refine step_app1 paOk #[.string X,.string D] (X,D) rfl rfl (.tmp 12) (.tmp 31) rfl W0.heap.size (.slice Pv xs.length cv) xs (by simp [Act.eval,Act.put]) HOA.out wr.drew.heap.size (by simp [Act.eval,Act.put]) (one_alloc _ _) (by have:=HXL.out; have:=HI.out; have:=HDL.out; unfold maxLen; omega) (by have:=HXL.out; have:=HI.out; have:=HDL.out; show _ * 32 ≤ _; omega) hcA.size ?_; intro v9 w9 ho9 hg9; obtain ⟨P9,k9,hf9⟩:=own_form ho9; subst hf9; have hb9:Below W0.heap.size W0 w9:=hcA.trans hg9))
      have HO5:Hid (w9.ownsRow W0.heap.size paE.T paE.k (.slice P9 (xs.length + 1) k9) (xs.length + 1) (paE.fl (xs ++ [(X,D)]))):=ho9
      have HB5:Hid (Below W0.heap.size W0 w9):=hb9
      have hiw:=HIW.out
      clear ho9 hb9 hg9 hcA hcur
      go_wp2
      go_roundw
      case rel=>exact ⟨j + 1,xs ++ [(X,D)],P9,k9,HI.out,rfl,by simp,HTK.out,by have:=HXL.out; simp; omega,by simpa using HO5.out,HB5.out⟩
      case measure=>have:=HI.out; simp [intOf]; omega
    · have he:j=s.dir.length:=by omega
      have HFI:Hid (nowM s=xs):=by show _=_; unfold nowM; rw [← hdf,he,List.take_length]
      subst he
      clear hlt hdf hbx hxl
      go_wp2
      go_ret
      refine ⟨_,rfl,?_,fun g o n c e hk=>?_,?_⟩
      · rw [HFI.out]
        exact KR.own HOW.out rfl
      · have h1:=KR_ge HOW.out e
        have h2:=HB.out.size
        have h3:g < w.heap.size:=hk
        omega
      · exact HB.out.trans (HBX.out.mono HB.out.size)
end Go.Proofs.YtbgbmfmgdgalbaaGreatDoor
namespace Go.Proofs.YtbgbmfmgdgalbaaGreatDoor
open Go.RowKit
set_option linter.unusedVariables false
set_option linter.unusedSimpArgs false
section
variable {α:Type} {E:ET α}
theorem step_app1g (ok:ETok E) {w:World} {ops:Array Oper} {o:Oper} {a:Act} {K:Act → World → Prop} {Q:Exit → Act → World → Prop} {E0:Prop} (cs:Array Value) (x1:α) (hcs:cs.toList=E.enc x1) (hg:o.guard=none) (s x:Operand)
    (hop:o.op=Op.call { callee:=Callee.builtin Builtin.append,args:=#[s,x],argTypes:=#[E.ST,E.ST] })
    (b:Nat) (v:Value) (xs:List α) (hs:a.eval s=v) (hown:w.ownsRow b E.T E.k v xs.length (E.fl xs)) (B:Nat) (hx:a.eval x=.slice (some ⟨B,0,none⟩) 1 1) (hB:w.heap[B]?=some (.cells cs E.T)) (hl:xs.length + 1 ≤ maxLen) (hby:(xs.length + 1) * E.by_ ≤ 140737488355328) (hb:b ≤ w.heap.size)
    (h:∀ v' w',w'.ownsRow b E.T E.k v' (xs.length + 1) (E.fl (xs ++ [x1])) → Below b w w' → w.grownBy w' v.ownBlock → K (a.put o.dst v') w') :
    if Region.wanted o (yielded ops a.tmps)=true then Oper.wp Tryz.prog o a w K Q else E0:=by
  have hw:Region.wanted o (yielded ops a.tmps)=true:=by simp [Region.wanted,hg]
  rw [if_pos hw]
  obtain ⟨i0,hi,hz0,hz1,hz2⟩:=info_of ok.inf
  have hfl:E.fl [x1]=cs.toList:=by simp [ET.fl,hcs]
  obtain ⟨v',w',hrun,h2,h3,h4,h5⟩:=run_append_own_at (P:=Tryz.prog) w b E.ST o.type E.T i0 E.z E.k E.by_ ok.und hi hz0 hz1 hz2 ok.zc ok.kp v xs.length (E.fl xs) hown ⟨B,0,none⟩ 1 1 (E.fl [x1]) (ET.fl_len ok [x1]) (fun j u hu=>by
    rw [Lib.add_plain,Nat.zero_add,cell_of_row _ _ _ _ _ _ hB]; rw [hfl] at hu; simpa using hu) (ET.fl_one ok [x1]) hl hby hb
  unfold Oper.wp
  simp [execOp,hop,resolve,invoke,builtin,hs,hx,hrun,Result.andThen]
  exact h v' w' (by rw [ET.fl_app]; exact h2) ((Below.refl b w).grown h3 hb (fun q hq=>(World.ownsRow.lt hown q hq).1)) h3
end
set_option maxHeartbeats 4000000 in
set_option maxRecDepth 20000 in
theorem safe_any (s:Fs) (V:FV) (hb:Bd s) (hsl:s.sure.length ≤ 1099511627770) (hin:∀ x ∈ s.sure,0 ≤ x.2∧x.2 < (s.files.length:Int)) (w:World) (h:FsAt s V w):Calls Tryz.prog 29 #[.agg (fsC s V)] w fun e w'=>∃ v,e=.returned v∧KR paE w' v (safeM s)∧NB (fun k=>k < w.heap.size) v∧Below w.heap.size w w':=by
  obtain ⟨W0,hW0⟩:∃ W0,W0=w.alloc (.cells (fsC s V) 61):=⟨_,rfl⟩
  have hB0:Below w.heap.size w W0:=by rw [hW0]; exact (Below.refl _ _).alloc (Nat.le_refl _) _
  have hX0:W0.heap[w.heap.size]?=some (.cells (fsC s V) 61):=by rw [hW0]; exact one_alloc _ _
  obtain ⟨r,hr⟩:∃ r,w.heap.size=r:=⟨_,rfl⟩
  have HR:Hid (w.heap.size=r):=hr
  have HB:Hid (Below w.heap.size w W0):=hB0
  have HF:Hid (FsAt s V W0):=h.on hB0
  rw [hr] at hX0
  have HX:Hid (W0.heap[r]?=some (.cells (fsC s V) 61)):=hX0
  have HDL:Hid (s.sure.length ≤ 1099511627770):=hsl
  have HIN:Hid (∀ x ∈ s.sure,0 ≤ x.2∧x.2 < (s.files.length:Int)):=hin
  rw [show fsC s V=#[.bool s.down,.int .i64 (s.steps:Int),V.f,V.d,V.s,V.c,V.p,.int .i64 s.crash,V.k] from rfl] at hW0
  rw [show fsC s V=#[.bool s.down,.int .i64 (s.steps:Int),V.f,V.d,V.s,V.c,V.p,.int .i64 s.crash,V.k] from rfl]
  have HFZ:Hid (∀ x ∈ s.files,x.d.size ≤ 1073741824∧x.s ≤ x.d.size):=hb.fz
  clear hX0 hB0 h hb hr hin hsl
  go_enter Tryz.func29,Tryz.ntmps29
  go_upto_region 1 with fail
  rw [← hW0,HR.out]
  clear hW0
  obtain ⟨Pd,kd,hvd⟩:=HF.out.qs.form
  have HVD:Hid (V.s=.slice Pd s.sure.length kd):=hvd
  obtain ⟨Pf,kf,hvf⟩:=HF.out.qf.form
  have HVF:Hid (V.f=.slice Pf s.files.length kf):=hvf
  clear hvd hvf
  have HO0:Hid (W0.ownsRow W0.heap.size paE.T paE.k (.slice none 0 0) 0 (paE.fl [])):=⟨rfl,Or.inl ⟨rfl,rfl⟩⟩
  go_wp2
  go_loopw [3,4] (fun co ci wx=>∃ (j:Nat) (xs:List (ByteArray × ByteArray)) (Pv:Option Addr) (cv:Nat),j ≤ s.sure.length∧ci=.int .i64 (j:Int)∧co=.slice Pv xs.length cv∧(s.sure.take j).map (fun x=>(x.1,let f:=s.files.getD x.2.toNat ⟨⟨#[]⟩,0⟩; f.d.extract 0 f.s))=xs∧xs.length=j∧wx.ownsRow W0.heap.size paE.T paE.k (.slice Pv xs.length cv) xs.length (paE.fl xs)∧Below W0.heap.size W0 wx) (fun _ ci _=>s.sure.length - (intOf ci).toNat)
  case atStart=>exact ⟨0,[],none,0,Nat.zero_le _,rfl,rfl,rfl,rfl,HO0.out,Below.refl _ _⟩
  case round =>
    obtain ⟨j,xs,Pv,cv,hj,rfl,rfl,hdf,hxl,hown,hbx⟩:=hrel
    have HOW:Hid (wr.ownsRow W0.heap.size paE.T paE.k (.slice Pv xs.length cv) xs.length (paE.fl xs)):=hown
    have HBX:Hid (Below W0.heap.size W0 wr):=hbx
    have hrw:=keep_row HX.out hbx
    obtain ⟨x0,x1,x2,x3,x4,x5,x6,x7,x8,xf⟩:=row9 (v0:=.bool s.down) (v1:=.int .i64 (s.steps:Int)) (v2:=V.f) (v3:=V.d) (v4:=V.s) (v5:=V.c) (v6:=V.p) (v7:=.int .i64 s.crash) (v8:=V.k) hrw
    rw [HVD.out] at x4
    clear hrw hown
    by_cases hlt:j < s.sure.length
    · have hk:=HF.out.qs
      rw [HVD.out] at hk
      obtain ⟨g,o,c',he,hc⟩:=hk.cell slOk hlt
      injection he with he1 _ he2
      subst he1
      have htk:(s.sure.take (j + 1)).map (fun x=>(x.1,let f:=s.files.getD x.2.toNat ⟨⟨#[]⟩,0⟩; f.d.extract 0 f.s))=xs ++ [((s.sure[j]'hlt).1,(s.files.getD (s.sure[j]'hlt).2.toNat ⟨⟨#[]⟩,0⟩).d.extract 0 (s.files.getD (s.sure[j]'hlt).2.toNat ⟨⟨#[]⟩,0⟩).s)]:=by rw [← List.take_append_getElem hlt,List.map_append,hdf]; rfl
      have hin:=HIN.out (s.sure[j]'hlt) (List.getElem_mem hlt)
      obtain ⟨y,hy⟩:∃ y,s.sure[j]'hlt=y:=⟨_,rfl⟩
      rw [hy] at hc htk hin
      obtain ⟨X,Y⟩:=y
      obtain ⟨i,hi⟩:∃ i:Nat,Y=(i:Int):=⟨Y.toNat,by have:=hin.1; simp only at this; omega⟩
      subst hi
      have hi1:i < s.files.length:=by have:=hin.2; simp only at this; omega
      have hkf:=HF.out.qf
      rw [HVF.out] at hkf
      obtain ⟨gf,of,cf,hef,hcf⟩:=hkf.cell fiOk hi1
      injection hef with he3 _ he4
      subst he3
      obtain ⟨z,hz⟩:∃ z,s.files[i]'hi1=z:=⟨_,rfl⟩
      rw [hz] at hcf
      obtain ⟨D,S0⟩:=z
      have HTK:Hid ((s.sure.take (j + 1)).map (fun x=>(x.1,let f:=s.files.getD x.2.toNat ⟨⟨#[]⟩,0⟩; f.d.extract 0 f.s))=xs ++ [(X,D.extract 0 S0)]):=by
        show _=_
        rw [htk]
        simp only [Int.toNat_natCast]
        rw [getFi hi1 hz]
      have hz0:(0:Int) ≤ (j:Int):=by omega
      have hz1:(j:Int) < (s.sure.length:Int):=by omega
      have hy0:(0:Int) ≤ (i:Int):=by omega
      have hy1:(i:Int) < (s.files.length:Int):=by omega
      have hdl:=HDL.out
      have hiw:IntKind.i64.wrap ((j:Int) + 1)=(j:Int) + 1:=by rw [IntKind.wrap_i64] <;> omega
      have HIW:Hid (IntKind.i64.wrap ((j:Int) + 1)=(j:Int) + 1):=hiw
      have HI:Hid (j + 1 ≤ s.sure.length):=hlt
      have HXL:Hid (xs.length=j):=hxl
      have HC0:Hid (W0.cell? ⟨g,o + j * 2,none⟩=some (.string X)):=hc 0 _ rfl
      have HC1:Hid (W0.cell? ⟨g,o + j * 2 + 1,none⟩=some (.int .i64 (i:Int))):=hc 1 _ rfl
      have HSD:Hid (S0 ≤ D.size):=by have:=(HFZ.out _ (List.getElem_mem hi1)).2; rw [hz] at this; exact this
      have HC3:Hid (W0.cell? ⟨gf,of + i * 2 + 1,none⟩=some (.int .i64 (S0:Int))):=hcf 1 _ rfl
      have HC2:Hid (W0.cell? ⟨gf,of + i * 2,none⟩=some (.string D)):=hcf 0 _ rfl
      clear hk hc he2 hdf htk hxl hdl hbx hy hin hkf hcf he4 hz hi1 hiw
      go_upto_region 5 with fail
      clear x0 x1 x2 x3 x4 x5 x6 x7 x8 xf
      have hcur:Below W0.heap.size W0 wr.drew:=HBX.out.trans (Below.refl _ wr).drew
      have HKS:Hid (∀ W,Below W0.heap.size W0 W → (W.cell? ⟨r,2,none⟩=some (.slice (some ⟨gf,of,none⟩) s.files.length kf)∧W.cell? ⟨r,4,none⟩=some (.slice (some ⟨g,o,none⟩) s.sure.length kd)∧W.cell? ⟨g,o + j * 2,none⟩=some (.string X)∧W.cell? ⟨g,o + j * 2 + 1,none⟩=some (.int .i64 (i:Int))∧W.cell? ⟨gf,of + i * 2,none⟩=some (.string D)∧W.cell? ⟨gf,of + i * 2 + 1,none⟩=some (.int .i64 (S0:Int)))):=fun W hW=>by
        have h1:=keep_row HX.out hW
        exact ⟨by rw [cellC h1,← HVF.out]; rfl,by rw [cellC h1,← HVD.out]; rfl,cell_on HC0.out hW,cell_on HC1.out hW,cell_on HC2.out hW,cell_on HC3.out hW⟩
      have hcA:∀ c,Below W0.heap.size W0 (wr.drew.alloc c):=fun c=>hcur.alloc hcur.size _
      go_region_held3 (fun W:World=>W.cell? ⟨r,2,none⟩=some (.slice (some ⟨gf,of,none⟩) s.files.length kf)∧W.cell? ⟨r,4,none⟩=some (.slice (some ⟨g,o,none⟩) s.sure.length kd)∧W.cell? ⟨g,o + j * 2,none⟩=some (.string X)∧W.cell? ⟨g,o + j * 2 + 1,none⟩=some (.int .i64 (i:Int))∧W.cell? ⟨gf,of + i * 2,none⟩=some (.string D)∧W.cell? ⟨gf,of + i * 2 + 1,none⟩=some (.int .i64 (S0:Int)))
        (first | exact HKS.out _ hcur | exact HKS.out _ (hcA _))
        (fail)
      obtain ⟨q,hq⟩:∃ q,wr.heap.size=q:=⟨_,rfl⟩
      have HQ:Hid (wr.heap.size=q):=hq
      obtain ⟨WE,hWE⟩:∃ WE,WE=(wr.alloc (.cells #[.string D,.int .i64 (S0:Int)] 119)).drew:=⟨_,rfl⟩
      have hbE:Below wr.heap.size wr WE:=by rw [hWE]; exact ((Below.refl _ wr).alloc (Nat.le_refl _) _).drew
      have HBE:Hid (Below W0.heap.size W0 WE):=HBX.out.trans (hbE.mono HBX.out.size)
      have hxE:WE.heap[q]?=some (.cells #[.string D,.int .i64 (S0:Int)] 119):=by rw [hWE,← hq]; exact one_alloc wr (.cells #[.string D,.int .i64 (S0:Int)] 119)
      have HXE:Hid (WE.heap[q]?=some (.cells #[.string D,.int .i64 (S0:Int)] 119)):=hxE
      have HOE:Hid (WE.ownsRow W0.heap.size paE.T paE.k (.slice Pv xs.length cv) xs.length (paE.fl xs)):=own_keep HOW.out (fun k _ hk=>hbE.block k hk)
      rw [hq,← hWE]
      clear hWE hq hbE hxE hcur hcA
      have hs0:(0:Int) ≤ (S0:Int):=by omega
      have hs1:(S0:Int) ≤ (D.size:Int):=by have:=HSD.out; omega
      go_upto_region 6 with fail
      have hcur:Below WE.heap.size WE WE.drew:=(Below.refl _ WE).drew
      have HKS2:Hid (∀ W,Below WE.heap.size WE W → (W.cell? ⟨r,4,none⟩=some (.slice (some ⟨g,o,none⟩) s.sure.length kd)∧W.cell? ⟨g,o + j * 2,none⟩=some (.string X)∧W.cell? ⟨q,0,none⟩=some (.string D)∧W.cell? ⟨q,1,none⟩=some (.int .i64 (S0:Int)))):=fun W hW=>by
        have h1:=HKS.out W (HBE.out.trans (hW.mono HBE.out.size))
        obtain ⟨a,b,_⟩:=row2c (keep_row HXE.out hW)
        exact ⟨h1.2.1,h1.2.2.1,a,b⟩
      have hcA:Below WE.heap.size WE (WE.drew.alloc (.cells #[.string X,.string (D.extract 0 S0)] paE.T)):=hcur.alloc hcur.size _
      have HOA:Hid ((WE.drew.alloc (.cells #[.string X,.string (D.extract 0 S0)] paE.T)).ownsRow W0.heap.size paE.T paE.k (.slice Pv xs.length cv) xs.length (paE.fl xs)):=own_keep HOE.out (fun k _ hk=>hcA.block k hk)
      have HON:Hid (∀ k,(Value.slice Pv xs.length cv).ownBlock=some k → k < q):=fun k hk=>by have h1:=(World.ownsRow.lt HOW.out k hk).2; have h2:=HQ.out; omega
      have HQE:Hid (∀ W,Below W0.heap.size (WE.drew.alloc (.cells #[.string X,.string (D.extract 0 S0)] paE.T)) W → (WE.drew.alloc (.cells #[.string X,.string (D.extract 0 S0)] paE.T)).grownBy W (Value.slice Pv xs.length cv).ownBlock → W.cell? ⟨r,4,none⟩=some (.slice (some ⟨g,o,none⟩) s.sure.length kd)∧W.cell? ⟨g,o + j * 2,none⟩=some (.string X)∧W.cell? ⟨q,0,none⟩=some (.string D)∧W.cell? ⟨q,1,none⟩=some (.int .i64 (S0:Int))):=fun W hW hg=>by
        have h1:=HKS.out W ((HBE.out.trans (hcA.mono HBE.out.size)).trans hW)
        have h2:=keep_row HXE.out hcA
        have h3:W.heap[q]?=some (.cells #[.string D,.int .i64 (S0:Int)] 119):=(hg.block q (row_lt h2) (fun e=>by have:=HON.out q e.symm; omega)).trans h2
        obtain ⟨a,b,_⟩:=row2c h3
        exact ⟨h1.2.1,h1.2.2.1,a,b⟩
      go_region_held3 (fun W:World=>W.cell? ⟨r,4,none⟩=some (.slice (some ⟨g,o,none⟩) s.sure.length kd)∧W.cell? ⟨g,o + j * 2,none⟩=some (.string X)∧W.cell? ⟨q,0,none⟩=some (.string D)∧W.cell? ⟨q,1,none⟩=some (.int .i64 (S0:Int)))
        (first | exact HKS2.out _ hcur | exact HKS2.out _ hcA | exact HQE.out _ hg9 hgr9)
        (first | (refine step_app1g paOk #[.string X,.string (D.extract 0 S0)] (X,D.extract 0 S0) rfl rfl (.tmp 23) (.tmp 36) rfl W0.heap.size (.slice Pv xs.length cv) xs (by simp [Act.eval,Act.put]) HOA.out WE.drew.heap.size (by simp [Act.eval,Act.put]) (one_alloc _ _) (by have:=HXL.out; have:=HI.out; have:=HDL.out; unfold maxLen; omega) (by have:=HXL.out; have:=HI.out; have:=HDL.out; show _ * 32 ≤ _; omega) (HBE.out.trans (hcA.mono HBE.out.size)).size ?_; intro v9 w9 ho9 hg9 hgr9; obtain ⟨P9,k9,hf9⟩:=own_form ho9; subst hf9; have hb9:Below W0.heap.size W0 w9:=(HBE.out.trans (hcA.mono HBE.out.size)).trans hg9))
      have HO5:Hid (w9.ownsRow W0.heap.size paE.T paE.k (.slice P9 (xs.length + 1) k9) (xs.length + 1) (paE.fl (xs ++ [(X,D.extract 0 S0)]))):=ho9
      have HB5:Hid (Below W0.heap.size W0 w9):=hb9
      have hiw:=HIW.out
      clear ho9 hb9 hg9 hgr9 hcA hcur
      go_wp2
      go_roundw
      case rel=>exact ⟨j + 1,xs ++ [(X,D.extract 0 S0)],P9,k9,HI.out,rfl,by simp,HTK.out,by have:=HXL.out; simp; omega,by simpa using HO5.out,HB5.out⟩
      case measure=>have:=HI.out; simp [intOf]; omega
    · have he:j=s.sure.length:=by omega
      have HFI:Hid (safeM s=xs):=by show _=_; unfold safeM; rw [← hdf,he,List.take_length]
      subst he
      clear hlt hdf hbx hxl
      go_wp2
      go_ret
      refine ⟨_,rfl,?_,fun g o n c e hk=>?_,?_⟩
      · rw [HFI.out]
        exact KR.own HOW.out rfl
      · have h1:=KR_ge HOW.out e
        have h2:=HB.out.size
        have h3:g < w.heap.size:=hk
        omega
      · exact HB.out.trans (HBX.out.mono HB.out.size)
end Go.Proofs.YtbgbmfmgdgalbaaGreatDoor
namespace Go.Proofs.YtbgbmfmgdgalbaaGreatDoor
open Go.RowKit
set_option linter.unusedVariables false
set_option linter.unusedSimpArgs false
def nilV:FV:=⟨.slice none 0 0,.slice none 0 0,.slice none 0 0,.slice none 0 0,.slice none 0 0,.slice none 0 0⟩
theorem nilAt (w:World):FsAt newM nilV w:=⟨KR.nil,KR.nil,KR.nil,KR.nil,KR.nil,KR.nil⟩
set_option maxHeartbeats 2000000 in
set_option maxRecDepth 20000 in
theorem new_any (w:World):Calls Tryz.prog 23 #[] w fun e w'=>e=.returned (.agg (fsC newM nilV))∧Below w.heap.size w w':=by
  obtain ⟨Z,hZ⟩:∃ Z,Z=zF:=⟨_,rfl⟩
  have HZZ:Hid (Z=zF):=hZ
  have HZS:Hid (Z.size=9):=by show _=_; rw [hZ]; rfl
  clear hZ
  obtain ⟨W1,hW1⟩:∃ W1,W1=w.alloc (.cells Z 61):=⟨_,rfl⟩
  have HB1:Hid (Below w.heap.size w W1):=by show Below _ _ _; rw [hW1]; exact (Below.refl _ _).alloc (Nat.le_refl _) _
  have HR1:Hid (W1.heap[w.heap.size]?=some (.cells Z 61)):=by show _=_; rw [hW1]; exact one_alloc _ _
  obtain ⟨r,hr⟩:∃ r,w.heap.size=r:=⟨_,rfl⟩
  have HRR:Hid (w.heap.size=r):=hr
  rw [hr] at HR1
  clear hr
  go_enter Tryz.func23,Tryz.ntmps23
  go_upto_region 1 with (refine alF rfl rfl Z HZZ.out ?_)
  rw [← hW1,HRR.out]
  clear hW1
  have H1:Hid ((fsC newM nilV).all (·.oneCell')=true):=fsC_one (nilAt W1)
  go_wp2_with (refine stF rfl _ _ rfl r (fsC newM nilV) Z rfl rfl rfl H1.out HZS.out HR1.out ?_; intro W7 hr7 hm7)
  have hlv:=run_loadVar_mid (P:=Tryz.prog) W7 r 0 61 (fsC newM nilV).toList _ (fun j v hv=>by rw [cell_of_row _ _ _ _ _ _ hr7]; simpa using hv) Tryz.underlying61 rfl (by rw [Array.length_toList,fsC_size]; exact i31)
  rw [Array.toArray_toList] at hlv
  refine bodyPost_ret (v:=.agg (fsC newM nilV)) (by simp [results,Tryz.results23,asAddr,Act.put,hlv,Result.andThen]) rfl ?_
  exact ⟨rfl,HB1.out.trans (hm7.below (by have:=HRR.out; omega) HB1.out.size)⟩
end Go.Proofs.YtbgbmfmgdgalbaaGreatDoor
namespace Go.Proofs.YtbgbmfmgdgalbaaGreatDoor
open Go.RowKit
set_option linter.unusedVariables false
set_option linter.unusedSimpArgs false
theorem r_take_next {α:Type} {l m:List α} {j:Nat} (h:l.take j=m.take j) (h1:j < l.length) (h2:j < m.length) (he:l[j]=m[j]):l.take (j + 1)=m.take (j + 1):=by
  rw [← List.take_append_getElem h1,← List.take_append_getElem h2,h,he]
set_option maxHeartbeats 2000000 in
set_option maxRecDepth 20000 in
theorem sameTexts_any (va vb:Value) (l m:List ByteArray) (hl:l.length ≤ 4611686018427387000) (w:World) (ha:KR stE w va l) (hb:KR stE w vb m):Calls Tryz.prog 12 #[va,vb] w fun e w'=>e=.returned (.bool (decide (l=m)))∧Below w.heap.size w w':=by
  obtain ⟨Pa,ka,hva⟩:=ha.form
  obtain ⟨Pb,kb,hvb⟩:=hb.form
  subst hva hvb
  have HA:Hid (KR stE w (.slice Pa l.length ka) l):=ha
  have HB:Hid (KR stE w (.slice Pb m.length kb) m):=hb
  have HL:Hid (l.length ≤ 4611686018427387000):=hl
  clear ha hb hl
  by_cases hlen:l.length=m.length
  · have HLE:Hid (l.length=m.length):=hlen
    have hli:(l.length:Int)=(m.length:Int):=by omega
    clear hlen
    go_enter Tryz.func12,Tryz.ntmps12
    go_wp2
    clear hli
    go_loopw [5] (fun ci wx=>∃ j:Nat,j ≤ l.length∧ci=.int .i64 (j:Int)∧l.take j=m.take j∧Below w.heap.size w wx) (fun ci _=>l.length - (intOf ci).toNat)
    case atStart=>exact ⟨0,Nat.zero_le _,rfl,rfl,Below.refl _ _⟩
    case round =>
      obtain ⟨j,hj,rfl,hta,hbx⟩:=hrel
      have HBX:Hid (Below w.heap.size w wr):=hbx
      by_cases hlt:j < l.length
      · have hlm:j < m.length:=by have:=HLE.out; omega
        obtain ⟨ga,oa,ca,hea,hca⟩:=HA.out.cell stOk hlt
        injection hea with h1 _ h2
        subst h1
        obtain ⟨gb,ob,cb,heb,hcb⟩:=HB.out.cell stOk hlm
        injection heb with h3 _ h4
        subst h3
        have hnx:=r_take_next hta hlt hlm
        have hto:l[j]'hlt ≠ m[j]'hlm → l ≠ m:=fun h e=>h (by subst e; rfl)
        obtain ⟨X,hX⟩:∃ X,l[j]'hlt=X:=⟨_,rfl⟩
        obtain ⟨Y,hY⟩:∃ Y,m[j]'hlm=Y:=⟨_,rfl⟩
        rw [hX] at hca
        rw [hY] at hcb
        rw [hX,hY] at hnx hto
        have HC0:Hid (w.cell? ⟨ga,oa + j,none⟩=some (.string X)):=by have:=hca 0 (.string X) rfl; show _=_; simpa [stE] using this
        have HC1:Hid (w.cell? ⟨gb,ob + j,none⟩=some (.string Y)):=by have:=hcb 0 (.string Y) rfl; show _=_; simpa [stE] using this
        have HNX:Hid (X=Y → l.take (j + 1)=m.take (j + 1)):=hnx
        have HTO:Hid (X ≠ Y → l ≠ m):=hto
        have hz0:(0:Int) ≤ (j:Int):=by omega
        have hz1:(j:Int) < (l.length:Int):=by omega
        have hz2:(j:Int) < (m.length:Int):=by omega
        have hll:=HL.out
        have HIW:Hid (IntKind.i64.wrap ((j:Int) + 1)=(j:Int) + 1):=by show _=_; rw [IntKind.wrap_i64] <;> omega
        have HI:Hid (j + 1 ≤ l.length):=hlt
        clear hta hbx hca hcb hnx hto hX hY h2 h4 hll hlm
        go_upto_region 6 with fail
        have hcur:Below w.heap.size w wr.drew:=HBX.out.trans (Below.refl _ wr).drew
        have HKS:Hid (∀ W,Below w.heap.size w W → (W.cell? ⟨ga,oa + j,none⟩=some (.string X)∧W.cell? ⟨gb,ob + j,none⟩=some (.string Y))):=fun W hW=>⟨cell_on HC0.out hW,cell_on HC1.out hW⟩
        have HBD:Hid (Below w.heap.size w wr.drew):=hcur
        by_cases hxy:X=Y
        · have hxt:(X.toList == Y.toList)=true:=str_same (by rw [hxy])
          go_region_held3 (fun W:World=>W.cell? ⟨ga,oa + j,none⟩=some (.string X)∧W.cell? ⟨gb,ob + j,none⟩=some (.string Y)) (exact HKS.out _ hcur) (fail)
          have hiw:=HIW.out
          have HTN:Hid (l.take (j + 1)=m.take (j + 1)):=HNX.out hxy
          clear hcur
          generalize wr.drew=WD at *
          go_wp2
          go_roundw
          case rel=>exact ⟨j + 1,HI.out,rfl,HTN.out,HBD.out⟩
          case measure=>have:=HI.out; simp [intOf]; omega
        · have hxf:(X.toList == Y.toList)=false:=str_other (r_ba_ne hxy)
          go_region_held3 (fun W:World=>W.cell? ⟨ga,oa + j,none⟩=some (.string X)∧W.cell? ⟨gb,ob + j,none⟩=some (.string Y)) (exact HKS.out _ hcur) (fail)
          have HNE:Hid (decide (l=m)=false):=decide_eq_false (HTO.out hxy)
          clear hcur
          generalize wr.drew=WD at *
          go_wp2
          go_ret
          exact ⟨by rw [HNE.out]; rfl,HBD.out⟩
      · have he:j=l.length:=by omega
        have HEQ:Hid (decide (l=m)=true):=decide_eq_true (by rw [he,List.take_length,HLE.out,List.take_length] at hta; exact hta)
        subst he
        clear hlt hta hbx
        go_wp2
        go_ret
        exact ⟨by rw [HEQ.out]; rfl,HBX.out⟩
  · have HNE:Hid (decide (l=m)=false):=decide_eq_false (fun e=>hlen (by rw [e]))
    have hli:¬ (l.length:Int)=(m.length:Int):=by omega
    go_enter Tryz.func12,Tryz.ntmps12
    go_wp2
    go_ret
    exact ⟨by rw [HNE.out]; rfl,Below.refl _ _⟩
end Go.Proofs.YtbgbmfmgdgalbaaGreatDoor
namespace Go.Proofs.YtbgbmfmgdgalbaaGreatDoor.P
open Go.RowKit
set_option linter.unusedVariables false
def bcells (l:List UInt8):List Value:=l.map fun b=>Value.int .u8 (b.toNat:Int)
theorem bcells_str (l:List UInt8) (s:ByteArray):bcells (l ++ s.data.toList)=bcells l ++ Lib.strCells s:=by unfold bcells Lib.strCells; rw [List.map_append]
theorem info5:(Tryz.prog.info? 5).map (fun i=>(i.zero,i.size,i.bytes))=some (some (.int .u8 0),1,1):=by kernel_rfl
def mcells (b:Nat) (v:Value) (W:Int):Array Value:=#[.pointer (some ⟨b,0,none⟩),v]
def MakerAt (B b:Nat) (W:Int) (l:List UInt8) (w:World):Prop:=
  B ≤ b∧∃ v,w.heap[b]?=some (.cells (mcells b v W) 131 (0,0))∧w.ownsRow B 5 1 v l.length (bcells l)∧v.ownBlock ≠ some b
theorem sizeB:(Tryz.prog.info? 131).map (·.size)=some 2:=by kernel_rfl
theorem cell_heap {w:World} {b:Nat} {cs:Array Value} {T:TypeId} {fr:Nat × Nat} (hb:w.heap[b]?=some (.cells cs T fr)) (j:Nat):w.cell? ⟨b,j,none⟩=cs[j]?:=by
  simp [World.cell?,hb]
set_option maxHeartbeats 1000000 in
set_option maxRecDepth 100000 in
theorem copyCheck_used (b:Nat) (w:World) (h0:w.cell? ⟨b,0,none⟩=some (.pointer (some ⟨b,0,none⟩))) :
    Calls Tryz.prog 119 #[.pointer (some ⟨b,0,none⟩)] w fun e w'=>e=.returned (.tuple #[])∧w'=w:=by
  obtain ⟨j,hj,_⟩:=Option.map_eq_some_iff.1 sizeB
  go_enter Tryz.func119,Tryz.ntmps119
  go_wp2
  rw [Lib.run_neq_ptr_same w _ Tryz.underlying128 hj]
  go_wp2
  go_end0
  exact ⟨rfl,rfl⟩
theorem maker_put {B b:Nat} {W:Int} {v v':Value} {l:List UInt8} {w:World} (hB:B ≤ b) (hb:w.heap[b]?=some (.cells (mcells b v W) 131 (0,0))) (hown:w.ownsRow B 5 1 v' l.length (bcells l)) :
    MakerAt B b W l (w.setCell ⟨b,1,none⟩ v'):=by
  have hne:v'.ownBlock ≠ some b:=by
    intro e
    rcases hown.2 with ⟨h,_⟩ | ⟨g,cap,cur,h,_,hg,_⟩
    · subst h; simp [Value.ownBlock] at e
    · subst h
      simp [Value.ownBlock] at e
      subst e
      rw [hb] at hg
      injection hg with hg
      injection hg with _ h2
      exact absurd h2 (by decide)
  refine ⟨hB,v',?_,?_,hne⟩
  · simp [World.setCell,Array.getElem?_modify,hb,mcells]
  · refine hown.kept (row:=some b) ⟨rfl,rfl,rfl,by simp [World.setCell],fun k _ hk=>Below.heap_setCell _ _ _ _ (fun e=>hk (by simp [e]))⟩ ?_
    exact Or.inr hne
set_option maxHeartbeats 2000000 in
set_option maxRecDepth 100000 in
theorem writeString_any (B b:Nat) (W:Int) (l:List UInt8) (s:ByteArray) (w:World) (h:MakerAt B b W l w) (hlen:l.length + s.size ≤ 140737488355328) (hBw:B ≤ w.heap.size) :
    Calls Tryz.prog 76 #[.pointer (some ⟨b,0,none⟩),.string s] w fun e w'=>e=.returned (.tuple #[.int .i64 s.size,.nilIface])∧(MakerAt B b W (l ++ s.data.toList) w'∧Below B w w'):=by
  obtain ⟨i0,hi,hz0,hz1,hz2⟩:=info_parts info5
  obtain ⟨hB,v,hbk,hown,hne⟩:=h
  have c0:w.cell? ⟨b,0,none⟩=some (.pointer (some ⟨b,0,none⟩)):=by rw [cell_heap hbk]; rfl
  have c1:w.cell? ⟨b,1,none⟩=some v:=by rw [cell_heap hbk]; rfl
  go_enter Tryz.func76,Tryz.ntmps76
  go_wp2_with fail
  refine (copyCheck_used b w c0).mono ?_
  rintro e w1 ⟨rfl,hw1⟩
  subst w1
  go_wp2_with (at_builtin; go_must (refine Lib.wpList_append_own_string _ rfl _ _ 129 9 rfl B 5 i0 Tryz.underlying129 Tryz.underlying9 hi hz0 hz1 hz2 _ _ _ rfl hown s rfl ?c3 ?c4 ?c5 ?_))
  case c3=>unfold maxLen; omega
  case c4=>omega
  case c5=>omega
  intro v' w2 hown' hgrow _
  have hb2:w2.heap[b]?=some (.cells (mcells b v W) 131 (0,0)):=by
    rw [hgrow.block b (row_lt hbk) (fun e=>hne e.symm)]
    exact hbk
  have d0:w2.cell? ⟨b,0,none⟩=some (.pointer (some ⟨b,0,none⟩)):=by rw [cell_heap hb2]; rfl
  have d1:w2.cell? ⟨b,1,none⟩=some v:=by rw [cell_heap hb2]; rfl
  have f1:w2.frozen? ⟨b,1,none⟩=false:=Lib.frozen_of_heap hb2 1
  obtain ⟨ao,n',cap,rfl⟩:∃ ao n' cap,v'=.slice ao n' cap:=by
    obtain ⟨p,c,e⟩:=own_form hown'
    exact ⟨_,_,_,e⟩
  have HO2:Hid (w2.ownsRow B 5 1 (.slice ao n' cap) (l ++ s.data.toList).length (bcells (l ++ s.data.toList))):=by
    rw [bcells_str,List.length_append,list_len]; exact hown'
  clear hown'
  go_wp2
  go_ret2
  refine ⟨rfl,maker_put hB hb2 HO2.out,?_⟩
  exact ((Below.refl B w).grown hgrow hBw (fun k hk=>(hown.lt k hk).1)).setCell (p:=⟨b,1,none⟩) hB _
end Go.Proofs.YtbgbmfmgdgalbaaGreatDoor.P
