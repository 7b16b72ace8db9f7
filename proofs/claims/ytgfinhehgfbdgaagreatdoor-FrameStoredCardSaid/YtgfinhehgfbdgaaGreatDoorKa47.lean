import Derived.Test.YtgfinhehgfbdgaaGreatDoorKa45
import Derived.Test.YtgfinhehgfbdgaaGreatDoorKa34
import Derived.Test.YtgfinhehgfbdgaaGreatDoorKa46
import Derived.Test.YtgfinhehgfbdgaaGreatDoorKa01
import Derived.Deep.RegionHeld3
namespace Go.Proofs.YtgfinhehgfbdgaaGreatDoor
open Go.RowKit
theorem bwrite_ok (vf vh vw:Value) (f h:List Ent) (l:List Wr) (S:ByteArray) (w:World) (hx:BatIs w vf vh vw f h l) (hg:errT w) (h0:rightB f h l) (hS:bodyL f h l=S.data.toList) (hs:S.size≤20000) :
   Calls Tryz.prog 27 #[.agg #[vf,vh,vw]] w fun e w'=>e=.returned (.tuple #[.string S,.nilIface])∧Below w.heap.size w w':=by
 refine (bwrite_any vf vh vw f h l w hx hg).mono ?_
 rintro e w' ⟨err,rfl,ha,hb⟩
 have h1:bodyF f h l=(bodyL f h l,0,-1):=bodyF_ok h0 (by rw [hS,←size_data];omega)
 rw [h1] at ha ⊢
 obtain rfl:=ha.nil rfl
 refine ⟨?_,hb⟩
 rw [hS,bs_of]
theorem bwrite_err (vf vh vw:Value) (f h:List Ent) (l:List Wr) (w:World) (hx:BatIs w vf vh vw f h l) (hg:errT w) (h0:¬ (rightB f h l∧(bodyL f h l).length≤20000)) :
   Calls Tryz.prog 27 #[.agg #[vf,vh,vw]] w fun e w'=>∃ t u x,e=.returned (.tuple #[.string ⟨#[]⟩,.iface t u])∧isErr w' (.iface t u) (x:Nat)∧(rightB f h l→x=4)∧Below w.heap.size w w':=by
 refine (bwrite_any vf vh vw f h l w hx hg).mono ?_
 rintro e w' ⟨err,rfl,ha,hb⟩
 by_cases hr:rightB f h l
 · have h1 : bodyF f h l = ([], 4, -1) := bodyF_big hr (by
     rcases Nat.lt_or_ge 20000 (bodyL f h l).length with h' | h'
     · exact h'
     · exact absurd ⟨hr,h'⟩ h0)
   rw [h1] at ha ⊢
   have hi:=ha.isErr (by decide)
   obtain ⟨t,u,rfl⟩:=ha.iface (by decide)
   exact ⟨t,u,4,rfl,hi,fun _=>rfl,hb⟩
 · have hr0:(batF f h l).1≠0:=hr
   rw [bodyF_bad hr0] at ha ⊢
   have hi:=ha.isErr hr0
   obtain ⟨t,u,rfl⟩:=ha.iface hr0
   exact ⟨t,u,_,rfl,hi,fun h=>absurd h hr,hb⟩
theorem bread_ok (s:ByteArray) (f h:List Ent) (l:List Wr) (w:World) (hs:s.size≤maxLen) (hg:errT w) (hu:unbF s.data.toList=.inr (f,h,l)) :
   Calls Tryz.prog 50 #[.string s] w fun e w'=>∃ a1 c1 a2 c2 a3 c3,e=.returned (.tuple #[.agg #[.slice a1 f.length c1,.slice a2 h.length c2,.slice a3 l.length c3],.nilIface])∧BatIs w' (.slice a1 f.length c1) (.slice a2 h.length c2) (.slice a3 l.length c3) f h l∧Below w.heap.size w w':=by
 refine (bread_any s w hs hg).mono ?_
 rintro e w' ⟨hb,⟨x,pl,err,hx,_⟩ | ⟨f',h',l',vf,vh,vw,hx,rfl,ho⟩⟩
 · rw [hu] at hx;cases hx
 · rw [hu] at hx
   injection hx with hx
   injection hx with h1 h2
   injection h2 with h2 h3
   subst h1 h2 h3
   obtain ⟨a1,c1,rfl,_⟩:=ho.1.is.form
   obtain ⟨a2,c2,rfl,_⟩:=ho.2.1.is.form
   obtain ⟨a3,c3,rfl,_⟩:=ho.2.2.1.is.form
   exact ⟨a1,c1,a2,c2,a3,c3,rfl,ho.bat,hb⟩
theorem one_vec:vwriteL oneH=[1,3,0,7]:=by
 have h:runsL oneH=[[⟨3,7⟩]]:=by decide +kernel
 unfold vwriteL
 rw [h]
 simp [runsB,runB,timesB,putL_small]
theorem nil_vec:vwriteL []=[0]:=by
 have h:runsL []=[]:=by decide +kernel
 unfold vwriteL
 rw [h]
 simp [runsB,putL_small]
theorem one_tab:tabK [] (keysW oneW)=[⟨#[107]⟩]:=by decide +kernel
theorem one_at:atK [] (keysW oneW)=[0]:=by decide +kernel
theorem one_body:bodyL [] oneH oneW=[0,1,3,0,7,1,1,107,1,1,7,0,0,1,118]:=by
 unfold bodyL
 rw [one_tab,one_at,one_vec,nil_vec]
 have hp:placeF oneH 3=0:=by decide +kernel
 have ht:tailL ⟨7,3,1,⟨#[107]⟩,⟨#[118]⟩,0⟩=[1,118]:=by
   unfold tailL tailB numB valB
   rw [if_neg (by decide),if_neg (by decide),if_pos (by decide),app_data,spanB_data]
   unfold spanL
   rw [show ((⟨#[118]⟩:ByteArray).data.toList)=[118] from rfl,putL_small (by decide)]
   rfl
 simp only [oneW,rowB,oneB,hp,ht,textsB,List.flatMap_cons,List.flatMap_nil,spanL]
 simp [putL_small]
def oneS:ByteArray:=⟨#[0,1,3,0,7,1,1,107,1,1,7,0,0,1,118]⟩
theorem one_bytes:bodyL [] oneH oneW=oneS.data.toList:=one_body
theorem one_rightB:rightB [] oneH oneW:=by unfold rightB;rw [one_right]
theorem one_read:unbF oneS.data.toList=.inr ([],oneH,oneW):=by
 have h:=unb_body one_rightB [] (by rw [one_body];decide)
 rw [List.append_nil,if_pos rfl,one_bytes] at h
 exact h
set_option maxRecDepth 100000 in
set_option maxHeartbeats 4000000 in
theorem bodied_any (w:World) (hg:errT w):Calls Tryz.prog 24 #[] w fun e w'=>e=.returned (.bool true)∧Below w.heap.size w w':=by
 have HG:=Lib.hid hg
 clear hg
 obtain ⟨S,hS⟩:∃ S,oneS=S:=⟨_,rfl⟩
 have HSB:Hid (bodyL [] oneH oneW=S.data.toList):=Lib.hid (by rw [←hS];exact one_bytes)
 have HSR:Hid (unbF S.data.toList=.inr ([],oneH,oneW)):=Lib.hid (by rw [←hS];exact one_read)
 have hs15:S.size=15:=by rw [←hS];rfl
 have HST:Hid ((S.toList == [0,1,3,0,7,1,1,107,1,1,7,0,0,1,118])=true):=Lib.hid (by rw [←hS];decide +kernel)
 clear hS
 go_enter Tryz.func24,Tryz.ntmps24
 go_wp2_with fail
 refine (one_any _).mono ?_
 rintro r w1 ⟨P1,Q1,rfl,hx1,hb1⟩
 have HX1:=Lib.hid hx1
 have HB1:=Lib.hid hb1
 clear hx1 hb1
 go_wp2_with fail
 refine (bwrite_ok _ _ _ [] oneH oneW S w1 HX1.out (HG.out.below HB1.out) one_rightB HSB.out (by omega)).mono ?_
 rintro r w2 ⟨rfl,hb2⟩
 have HB2:Hid (Below w.heap.size w w2):=HB1.out.trans (hb2.mono HB1.out.size)
 clear hb2 HX1
 go_wp2_with fail
 refine (bread_ok S [] oneH oneW w2 (by unfold maxLen;omega) (HG.out.below HB2.out) HSR.out).mono ?_
 rintro r w3 ⟨a1,c1,a2,c2,a3,c3,rfl,hx3,hb3⟩
 have HX3:Hid (BatIs w3 (.slice a1 0 c1) (.slice a2 1 c2) (.slice a3 1 c3) [] oneH oneW):=Lib.hid hx3
 have HB3:Hid (Below w.heap.size w w3):=HB2.out.trans (hb3.mono HB2.out.size)
 clear hx3 hb3
 have e0:([]:List Ent).length=0:=rfl
 have e1:oneH.length=1:=rfl
 have e2:oneW.length=1:=rfl
 rw [e0,e1,e2]
 clear e0 e1 e2
 go_wp2
 have HA:Hid (batAt (w3.alloc (.cells #[.slice a1 0 c1,.slice a2 1 c2,.slice a3 1 c3] 25)) w3.heap.size (.slice a1 0 c1) (.slice a2 1 c2) (.slice a3 1 c3)):=Lib.hid (batAt_new _ _ _ _ _)
 have HX:Hid (BatIs (w3.alloc (.cells #[.slice a1 0 c1,.slice a2 1 c2,.slice a3 1 c3] 25)) (.slice a1 0 c1) (.slice a2 1 c2) (.slice a3 1 c3) [] oneH oneW):=Lib.hid (HX3.out.alloc _)
 have HW0:Hid (Below w.heap.size w (w3.alloc (.cells #[.slice a1 0 c1,.slice a2 1 c2,.slice a3 1 c3] 25))):=Lib.hid (HB3.out.alloc HB3.out.size _)
 have HZB:Hid (w3.heap.size < (w3.alloc (.cells #[.slice a1 0 c1,.slice a2 1 c2,.slice a3 1 c3] 25)).heap.size):=Lib.hid (by simp)
 clear HX3 HB3
 generalize w3.alloc (.cells #[.slice a1 0 c1,.slice a2 1 c2,.slice a3 1 c3] 25)=W at HA HX HW0 HZB ⊢
 generalize w3.heap.size=B at HA HZB ⊢
 have HB0:Hid (Below W.heap.size W W.drew):=Lib.hid (Below.refl _ _).drew
 have HE:Hid (∀ w',Below W.heap.size W w'→Below w.heap.size w w'):=Lib.hid (fun w' hx=>HW0.out.trans (hx.mono HW0.out.size))
 have hA0:=HA.out
 unfold batAt at hA0
 have hst:=HST.out
 go_region_held3 (fun w'=>w'.cell? ⟨B,0,none⟩=some (.slice a1 0 c1)∧w'.cell? ⟨B,1,none⟩=some (.slice a2 1 c2)∧w'.cell? ⟨B,2,none⟩=some (.slice a3 1 c3)) (first | exact hA0 | exact k1 | exact k2 | fail) (first
   | (go_at_call 55;((with_reducible refine (one_any W.drew).mono ?_);rintro r w6 ⟨P3,Q3,rfl,hx6,hb6⟩;have HX6:=Lib.hid hx6;have HB6:Hid (Below W.heap.size W w6):=Lib.hid (undrew3 hb6);have k1:=HA.out.below HB6.out HZB.out;unfold batAt at k1;clear hb6 hx6))
   | (go_at_call 22;((with_reducible refine (bsame_as _ _ _ _ _ _ [] oneH oneW [] oneH oneW true w6 (HX.out.below HB6.out) HX6.out one_same).mono ?_);rintro r w7 ⟨rfl,hb7⟩;have HB7:Hid (Below W.heap.size W w7):=HB6.out.trans (hb7.mono HB6.out.size);have k2:=HA.out.below HB7.out HZB.out;unfold batAt at k2;clear hb7))
   | fail)
 go_wp2
 go_ret
 exact ⟨rfl,HE.out _ HB7.out⟩
end Go.Proofs.YtgfinhehgfbdgaaGreatDoor
namespace Go.Proofs.YtgfinhehgfbdgaaGreatDoor
open Go.RowKit
theorem fwrite_ok (vf vh vw:Value) (f h:List Ent) (l:List Wr) (T:ByteArray) (w:World) (hx:BatIs w vf vh vw f h l) (hg:errT w) (hb:frmF f h l=(T.data.toList,0,-1)) :
    Calls Tryz.prog 12 #[.agg #[vf,vh,vw]] w fun r w'=>r=.returned (.tuple #[.string T,.nilIface])∧Below w.heap.size w w':=by
  refine (fwrite_as vf vh vw f h l T 0 (-1) w hx hg hb).mono ?_
  rintro r w' ⟨err,rfl,ha,hb⟩
  obtain rfl:=ha.nil rfl
  exact ⟨rfl,hb⟩
theorem fwrite_err (vf vh vw:Value) (f h:List Ent) (l:List Wr) (s:List UInt8) (e:Nat) (pl:Int) (w:World) (hx:BatIs w vf vh vw f h l) (hg:errT w) (hb:bodyF f h l=(s,e,pl)) (he:e≠0) :
    Calls Tryz.prog 12 #[.agg #[vf,vh,vw]] w fun r w'=>∃ t u,r=.returned (.tuple #[.string ⟨#[]⟩,.iface t u])∧Below w.heap.size w w':=by
  refine (fwrite_as vf vh vw f h l ⟨#[]⟩ e pl w hx hg (frmF_bad hb he)).mono ?_
  rintro r w' ⟨err,rfl,ha,hb⟩
  obtain ⟨t,u,rfl⟩:=ha.iface he
  exact ⟨t,u,rfl,hb⟩
theorem fread_ok (s:ByteArray) (f h:List Ent) (l:List Wr) (w:World) (hs:s.size≤400000) (hg:errT w) (hu:unfF s.data.toList=.inr (f,h,l)) :
    Calls Tryz.prog 15 #[.string s] w fun e w'=>∃ a1 c1 a2 c2 a3 c3,e=.returned (.tuple #[.agg #[.slice a1 f.length c1,.slice a2 h.length c2,.slice a3 l.length c3],.nilIface])∧BatIs w' (.slice a1 f.length c1) (.slice a2 h.length c2) (.slice a3 l.length c3) f h l∧Below w.heap.size w w':=by
  refine (fread_any s w hs hg).mono ?_
  rintro e w' ⟨hb,⟨x,pl,err,hx,_⟩ | ⟨f',h',l',a1,c1,a2,c2,a3,c3,hx,rfl,ho⟩⟩
  · rw [hu] at hx;cases hx
  · rw [hu] at hx
    injection hx with hx
    injection hx with h1 h2
    injection h2 with h2 h3
    subst h1 h2 h3
    exact ⟨a1,c1,a2,c2,a3,c3,rfl,ho,hb⟩
theorem fread_err (s:ByteArray) (x:Nat) (pl:Int) (w:World) (hs:s.size≤400000) (hg:errT w) (hu:unfF s.data.toList=.inl (x,pl)) :
    Calls Tryz.prog 15 #[.string s] w fun e w'=>∃ t u,e=.returned (.tuple #[.agg #[.slice none 0 0,.slice none 0 0,.slice none 0 0],.iface t u])∧isErr w' (.iface t u) (x:Nat)∧Below w.heap.size w w':=by
  refine (fread_any s w hs hg).mono ?_
  rintro e w' ⟨hb,⟨x',pl',err,hx,hx0,rfl,ha⟩ | ⟨f',h',l',a1,c1,a2,c2,a3,c3,hx,_⟩⟩
  · rw [hu] at hx
    injection hx with hx
    injection hx with h1 h2
    subst h1 h2
    have hi:=ha.isErr hx0
    obtain ⟨t,u,rfl⟩:=ha.iface hx0
    exact ⟨t,u,rfl,hi,hb⟩
  · rw [hu] at hx;cases hx
theorem frm_cases (f h:List Ent) (l:List Wr):(∃ s e pl,bodyF f h l=(s,e,pl)∧e≠0∧¬ (rightB f h l∧(bodyL f h l).length≤20000)) ∨
    ∃ S T:ByteArray,rightB f h l∧bodyL f h l=S.data.toList∧S.size≤20000∧frmF f h l=(T.data.toList,0,-1)∧frmL S.data.toList=T.data.toList:=by
  by_cases hr:rightB f h l
  · by_cases hb:20000 < (bodyL f h l).length
    · exact .inl ⟨_,_,_,bodyF_big hr hb,by decide,fun h=>by omega⟩
    · have hS:bodyL f h l=(⟨(bodyL f h l).toArray⟩:ByteArray).data.toList:=by simp
      have hT:frmL (bodyL f h l)=(⟨(frmL (bodyL f h l)).toArray⟩:ByteArray).data.toList:=by simp
      refine .inr ⟨⟨(bodyL f h l).toArray⟩,⟨(frmL (bodyL f h l)).toArray⟩,hr,hS,?_,?_,?_⟩
      · rw [size_data,←hS];omega
      · rw [←hT];exact frmF_ok (bodyF_ok hr hb)
      · rw [←hS,hT]
  · have h0:(batF f h l).1≠0:=hr
    exact .inl ⟨_,_,_,(bodyF_bad h0).trans (Prod.ext rfl (Prod.ext rfl rfl)),h0,fun h=>hr h.1⟩
end Go.Proofs.YtgfinhehgfbdgaaGreatDoor
namespace Go.Proofs.YtgfinhehgfbdgaaGreatDoor
open Go.RowKit
theorem one_toks:toks oneS.data.toList=[⟨oneS,0,0⟩]:=by decide +kernel
theorem one_sq:¬ (sqL oneS.data.toList).length < oneS.data.toList.length:=by
  unfold sqL
  rw [one_toks,writeL_cons,writeL_nil,putT_own (by decide),putL_small (by decide)]
  decide
def oneI:List UInt8:=[0,15,0,1,3,0,7,1,1,107,1,1,7,0,0,1,118]
theorem one_pack:packL oneS.data.toList=oneI:=by
  unfold packL
  rw [if_neg one_sq,putL_small (by decide)];rfl
theorem one_frm:frmL oneS.data.toList=sealL (80 :: 84 :: 3 :: oneI):=by unfold frmL;rw [one_pack]
theorem one_frame:∃ S:ByteArray,frmF [] oneH oneW=(S.data.toList,0,-1)∧unfF S.data.toList=.inr ([],oneH,oneW)∧opnF S.data.toList=(3,(⟨oneI.toArray⟩:ByteArray).data.toList,0)∧S.size=24∧Lib.hasPrefix S.data.toList [80,84,3,0,15,0,1,3]=true:=by
  refine ⟨⟨(frmL oneS.data.toList).toArray⟩,?_⟩
  have hd:(⟨(frmL oneS.data.toList).toArray⟩:ByteArray).data.toList=frmL oneS.data.toList:=by simp
  have hb:bodyL [] oneH oneW=oneS.data.toList:=one_bytes
  have hl:(bodyL [] oneH oneW).length≤20000:=by rw [hb];decide
  have hf:bodyF [] oneH oneW=(oneS.data.toList,0,-1):=by rw [bodyF_ok one_rightB (by omega),hb]
  refine ⟨by rw [hd];exact frmF_ok hf,?_,?_,?_,?_⟩
  · rw [hd,←hb];exact unf_frm one_rightB hl
  · rw [hd,opn_frm,one_pack]
  · rw [size_data,hd,one_frm,sealL_len];rfl
  · rw [hd,one_frm];rfl
set_option maxRecDepth 100000 in
set_option maxHeartbeats 4000000 in
theorem framed_any (w:World) (hg:errT w):Calls Tryz.prog 21 #[] w fun e w'=>e=.returned (.bool true)∧Below w.heap.size w w':=by
  have HG:=Lib.hid hg
  clear hg
  obtain ⟨S,h1,h2,h3,hs24,h5⟩:=one_frame
  have HF:=Lib.hid h1
  have HU:=Lib.hid h2
  have HO:=Lib.hid h3
  have HP:=Lib.hid h5
  clear h1 h2 h3 h5
  go_enter Tryz.func21,Tryz.ntmps21
  go_wp2_with fail
  refine (one_any _).mono ?_
  rintro r w1 ⟨P1,Q1,rfl,hx1,hb1⟩
  have HX1:=Lib.hid hx1
  have HB1:=Lib.hid hb1
  clear hx1 hb1
  go_wp2_with fail
  refine (fwrite_ok _ _ _ [] oneH oneW S w1 HX1.out (HG.out.below HB1.out) HF.out).mono ?_
  rintro r w2 ⟨rfl,hb2⟩
  have HB2:Hid (Below w.heap.size w w2):=HB1.out.trans (hb2.mono HB1.out.size)
  clear hb2 HX1
  go_wp2_with fail
  refine (version_as S ⟨oneI.toArray⟩ 3 0 w2 (by omega) HO.out).mono ?_
  rintro r w3 ⟨rfl,hb3⟩
  have HB3:Hid (Below w.heap.size w w3):=HB2.out.trans (hb3.mono HB2.out.size)
  clear hb3
  rw [errC_zero]
  go_wp2_with fail
  refine (fread_ok S [] oneH oneW w3 (by omega) (HG.out.below HB3.out) HU.out).mono ?_
  rintro r w4 ⟨a1,c1,a2,c2,a3,c3,rfl,hx4,hb4⟩
  have HX4:Hid (BatIs w4 (.slice a1 0 c1) (.slice a2 1 c2) (.slice a3 1 c3) [] oneH oneW):=Lib.hid hx4
  have HB4:Hid (Below w.heap.size w w4):=HB3.out.trans (hb4.mono HB3.out.size)
  clear hx4 hb4
  have e0:([]:List Ent).length=0:=rfl
  have e1:oneH.length=1:=rfl
  have e2:oneW.length=1:=rfl
  rw [e0,e1,e2]
  clear e0 e1 e2
  go_wp2
  have HA:Hid (batAt (w4.alloc (.cells #[.slice a1 0 c1,.slice a2 1 c2,.slice a3 1 c3] 25)) w4.heap.size (.slice a1 0 c1) (.slice a2 1 c2) (.slice a3 1 c3)):=Lib.hid (batAt_new _ _ _ _ _)
  have HX:Hid (BatIs (w4.alloc (.cells #[.slice a1 0 c1,.slice a2 1 c2,.slice a3 1 c3] 25)) (.slice a1 0 c1) (.slice a2 1 c2) (.slice a3 1 c3) [] oneH oneW):=Lib.hid (HX4.out.alloc _)
  have HW0:Hid (Below w.heap.size w (w4.alloc (.cells #[.slice a1 0 c1,.slice a2 1 c2,.slice a3 1 c3] 25))):=Lib.hid (HB4.out.alloc HB4.out.size _)
  have HZB:Hid (w4.heap.size < (w4.alloc (.cells #[.slice a1 0 c1,.slice a2 1 c2,.slice a3 1 c3] 25)).heap.size):=Lib.hid (by simp)
  clear HX4 HB4
  generalize w4.alloc (.cells #[.slice a1 0 c1,.slice a2 1 c2,.slice a3 1 c3] 25)=W at HA HX HW0 HZB ⊢
  generalize w4.heap.size=B at HA HZB ⊢
  have HB0:Hid (Below W.heap.size W W.drew):=Lib.hid (Below.refl _ _).drew
  have HE:Hid (∀ w',Below W.heap.size W w'→Below w.heap.size w w'):=Lib.hid (fun w' hx=>HW0.out.trans (hx.mono HW0.out.size))
  have hA0:=HA.out
  unfold batAt at hA0
  have hs24i:(S.size:Int)=24:=by omega
  have hpb:=HP.out
  go_region_held3 (fun w'=>w'.cell? ⟨B,0,none⟩=some (.slice a1 0 c1)∧w'.cell? ⟨B,1,none⟩=some (.slice a2 1 c2)∧w'.cell? ⟨B,2,none⟩=some (.slice a3 1 c3)) (first | exact hA0 | exact k1 | exact k2 | fail) (first
    | (go_at_call 51;((with_reducible refine (Tryz.strings_HasPrefix _ _ _).mono ?_);rintro r w5 ⟨rfl,rfl⟩;rw [hpb]))
    | (go_at_call 55;((with_reducible refine (one_any W.drew).mono ?_);rintro r w6 ⟨P3,Q3,rfl,hx6,hb6⟩;have HX6:=Lib.hid hx6;have HB6:Hid (Below W.heap.size W w6):=Lib.hid (undrew3 hb6);have k1:=HA.out.below HB6.out HZB.out;unfold batAt at k1;clear hb6 hx6))
    | (go_at_call 22;((with_reducible refine (bsame_as _ _ _ _ _ _ [] oneH oneW [] oneH oneW true w6 (HX.out.below HB6.out) HX6.out one_same).mono ?_);rintro r w7 ⟨rfl,hb7⟩;have HB7:Hid (Below W.heap.size W w7):=HB6.out.trans (hb7.mono HB6.out.size);have k2:=HA.out.below HB7.out HZB.out;unfold batAt at k2;clear hb7))
    | fail)
  go_wp2
  go_ret
  exact ⟨rfl,HE.out _ HB7.out⟩
end Go.Proofs.YtgfinhehgfbdgaaGreatDoor
