import Derived.Test.YtjkbmfpomgcblaaGreatDoorKp47
import Derived.Test.YtjkbmfpomgcblaaGreatDoorKp41
namespace Go.Proofs.YtjkbmfpomgcblaaGreatDoor
open Go.RowKit
theorem rd_ok {F:FuncId} {s:ByteArray} {r:(Nat×Int) ⊕ (List Ent×List Ent×List Wr)} {f h:List Ent} {l:List Wr} {w:World} (hc:Calls Tryz.prog F #[.string s] w (RdIs r w)) (hu:r=.inr (f,h,l)) :
   Calls Tryz.prog F #[.string s] w fun e w'=>∃ a1 c1 a2 c2 a3 c3,e=.returned (.tuple #[.agg #[.slice a1 f.length c1,.slice a2 h.length c2,.slice a3 l.length c3],.nilIface])∧BatIs w' (.slice a1 f.length c1) (.slice a2 h.length c2) (.slice a3 l.length c3) f h l∧Below w.heap.size w w':=by
 refine hc.mono ?_
 rintro e w' ⟨hb,⟨x,pl,err,hx,_⟩ | ⟨f',h',l',a1,c1,a2,c2,a3,c3,hx,rfl,ho⟩⟩
 · rw [hu] at hx;cases hx
 · rw [hu] at hx
   injection hx with hx
   injection hx with h1 h2
   injection h2 with h2 h3
   subst h1 h2 h3
   exact ⟨a1,c1,a2,c2,a3,c3,rfl,ho.bat,hb⟩
theorem rd_err {F:FuncId} {s:ByteArray} {r:(Nat×Int) ⊕ (List Ent×List Ent×List Wr)} {x:Nat} {pl:Int} {w:World} (hc:Calls Tryz.prog F #[.string s] w (RdIs r w)) (hu:r=.inl (x,pl)) :
   Calls Tryz.prog F #[.string s] w fun e w'=>∃ t u,e=.returned (.tuple #[.agg #[.slice none 0 0,.slice none 0 0,.slice none 0 0],.iface t u])∧isErr w' (.iface t u) (x:Nat)∧Below w.heap.size w w':=by
 refine hc.mono ?_
 rintro e w' ⟨hb,⟨x',pl',err,hx,hx0,rfl,ha⟩ | ⟨f',h',l',a1,c1,a2,c2,a3,c3,hx,_⟩⟩
 · rw [hu] at hx
   injection hx with hx
   injection hx with h1 h2
   subst h1 h2
   have hi:=ha.isErr hx0
   obtain ⟨t,u,rfl⟩:=ha.iface hx0
   exact ⟨t,u,rfl,hi,hb⟩
 · rw [hu] at hx;cases hx
theorem ofirst_ok (vf vh vw:Value) (f h:List Ent) (l:List Wr) (T:ByteArray) (w:World) (hx:BatIs w vf vh vw f h l) (hg:errT w) (hb:firstF f h l=(T.data.toList,0,-1)) :
   Calls Tryz.prog 15 #[.agg #[vf,vh,vw]] w fun r w'=>r=.returned (.tuple #[.string T,.nilIface])∧Below w.heap.size w w':=by
 refine (ofirst_as vf vh vw f h l T 0 (-1) w hx hg hb).mono ?_
 rintro r w' ⟨err,rfl,ha,hb⟩
 obtain rfl:=ha.nil rfl
 exact ⟨rfl,hb⟩
theorem osecond_ok (vf vh vw:Value) (f h:List Ent) (l:List Wr) (T:ByteArray) (w:World) (hx:BatIs w vf vh vw f h l) (hg:errT w) (hb:secondF f h l=(T.data.toList,0,-1)) :
   Calls Tryz.prog 16 #[.agg #[vf,vh,vw]] w fun r w'=>r=.returned (.tuple #[.string T,.nilIface])∧Below w.heap.size w w':=by
 refine (osecond_as vf vh vw f h l T 0 (-1) w hx hg hb).mono ?_
 rintro r w' ⟨err,rfl,ha,hb⟩
 obtain rfl:=ha.nil rfl
 exact ⟨rfl,hb⟩
theorem osecond_err (vf vh vw:Value) (f h:List Ent) (l:List Wr) (s:List UInt8) (e:Nat) (pl:Int) (w:World) (hx:BatIs w vf vh vw f h l) (hg:errT w) (hb:bodyF f h l=(s,e,pl)) (he:e≠0) :
   Calls Tryz.prog 16 #[.agg #[vf,vh,vw]] w fun r w'=>∃ t u,r=.returned (.tuple #[.string ⟨#[]⟩,.iface t u])∧Below w.heap.size w w':=by
 refine (osecond_as vf vh vw f h l ⟨#[]⟩ e pl w hx hg (second_bad hb he)).mono ?_
 rintro r w' ⟨err,rfl,ha,hb⟩
 obtain ⟨t,u,rfl⟩:=ha.iface he
 exact ⟨t,u,rfl,hb⟩
theorem isErr.belowO {w w':World} {v:Value} {e:Int} (h:isErr w v e) (hb:Below w.heap.size w w'):isErr w' v e:=by
 rcases h with h | ⟨b,off,pl,h1,h2,h3⟩
 · exact .inl h
 · exact .inr ⟨b,off,pl,h1,(hb.cell (p:=⟨b,off,none⟩) (lt_of_cell h2)).trans h2,(hb.cell (p:=⟨b,off + 1,none⟩) (lt_of_cell h3)).trans h3⟩
theorem bwrite_errO (vf vh vw:Value) (f h:List Ent) (l:List Wr) (s:List UInt8) (e:Nat) (pl:Int) (w:World) (hx:BatIs w vf vh vw f h l) (hg:errT w) (hb:bodyF f h l=(s,e,pl)) (he:e≠0) :
   Calls Tryz.prog 25 #[.agg #[vf,vh,vw]] w fun r w'=>∃ t u,r=.returned (.tuple #[.string ⟨s.toArray⟩,.iface t u])∧Below w.heap.size w w':=by
 obtain ⟨S,hS⟩:=of_data s
 subst hS
 refine (bwrite_as vf vh vw f h l S e pl w hx hg hb).mono ?_
 rintro r w' ⟨err,rfl,ha,hb⟩
 obtain ⟨t,u,rfl⟩:=ha.iface he
 exact ⟨t,u,by rw [bs_of],hb⟩
theorem bwrite_okO (vf vh vw:Value) (f h:List Ent) (l:List Wr) (S:ByteArray) (w:World) (hx:BatIs w vf vh vw f h l) (hg:errT w) (hb:bodyF f h l=(S.data.toList,0,-1)) :
   Calls Tryz.prog 25 #[.agg #[vf,vh,vw]] w fun r w'=>r=.returned (.tuple #[.string S,.nilIface])∧Below w.heap.size w w':=by
 refine (bwrite_as vf vh vw f h l S 0 (-1) w hx hg hb).mono ?_
 rintro r w' ⟨err,rfl,ha,hb⟩
 obtain rfl:=ha.nil rfl
 exact ⟨rfl,hb⟩
theorem olift_ok (s T:ByteArray) (w:World) (hs:s.size≤400000) (hg:errT w) (h:liftF s.data.toList=(T.data.toList,0,-1)) :
   Calls Tryz.prog 38 #[.string s] w fun r w'=>r=.returned (.tuple #[.string T,.nilIface])∧Below w.heap.size w w':=by
 refine (olift_as s T 0 (-1) w hs hg h).mono ?_
 rintro r w' ⟨err,rfl,ha,hb⟩
 obtain rfl:=ha.nil rfl
 exact ⟨rfl,hb⟩
theorem oldL_pos (f h:List Ent) (l:List Wr):1≤(oldL f h l).length:=by
 have:=plainL_pos f
 unfold oldL
 simp only [List.length_append]
 omega
theorem oldL_len {f h:List Ent} {l:List Wr} (hr:rightB f h l):(oldL f h l).length≤30000:=by
 obtain ⟨⟨g1,g2,_⟩,g4,g5,_⟩:=rightB_iff.1 hr
 have h1:=plainL_len f g1
 have h2:=plainL_len h g2
 have h3:=oldWs_len l (fun x hx=>(g5 x hx).1)
 have h4:=putL_le10 (n:=l.length) (by omega)
 unfold oldL
 simp only [List.length_append]
 omega
theorem bodyL_pos (f h:List Ent) (l:List Wr):1≤(bodyL f h l).length:=by
 have:=putL_pos l.length
 unfold bodyL
 simp only [List.length_append]
 omega
theorem first_facts {f h:List Ent} {l:List Wr} (hr:rightB f h l):∃ U I:ByteArray,firstF f h l=(U.data.toList,0,-1)∧anyF U.data.toList=.inr (f,h,l)∧opnF U.data.toList=(1,I.data.toList,0)∧oldF U.data.toList=.inr (f,h,l)∧(openL U.data.toList).2=0∧8≤U.size∧U.size≤400000∧unfF U.data.toList=.inl (6,-1):=by
 obtain ⟨I,hI⟩:=of_data (oldL f h l)
 obtain ⟨U,hU⟩:=of_data (sealL (80 :: 84 :: 1 :: oldL f h l))
 have hp:=oldL_pos f h l
 have hl:=oldL_len hr
 have h0:(batF f h l).1=0:=hr
 have ho:opnF (sealL (80 :: 84 :: 1 :: oldL f h l))=(1,oldL f h l,0):=by rw [opn_seal 1 _ hp,if_neg (by decide)];rfl
 have hz:U.size=(oldL f h l).length + 7:=by rw [size_data,←hU,sealL_len];simp
 refine ⟨U,I,?_,?_,?_,?_,?_,by omega,by omega,?_⟩
 · rw [first_ok h0,hU]
 · rw [←hU,any_old ho (by decide)];exact old_first hr
 · rw [←hU,←hI];exact ho
 · rw [←hU];exact old_first hr
 · rw [←hU,openL_seal]
 · rw [←hU];exact unf_state ho (by decide)
theorem all_facts {f h:List Ent} {l:List Wr} {S T:ByteArray} (hr:rightB f h l) (hS:bodyL f h l=S.data.toList) (hs:S.size≤20000) (_:frmF f h l=(T.data.toList,0,-1)) (hT:frmL S.data.toList=T.data.toList) :
   (∃ V:ByteArray,secondF f h l=(V.data.toList,0,-1)∧sealL (80 :: 84 :: 2 :: S.data.toList)=V.data.toList∧anyF V.data.toList=.inr (f,h,l)∧opnF V.data.toList=(2,S.data.toList,0)∧(openL V.data.toList).2=0∧8≤V.size∧V.size≤400000∧bodyF f h l=(S.data.toList,0,-1)) ∧
     ∃ I:ByteArray,anyF T.data.toList=.inr (f,h,l)∧opnF T.data.toList=(3,I.data.toList,0)∧(openL T.data.toList).2=0∧oldF T.data.toList=.inl (6,-1)∧unfF T.data.toList=.inr (f,h,l)∧8≤T.size∧T.size≤400000:=by
 have hp:=bodyL_pos f h l
 have hlen:(bodyL f h l).length≤20000:=by rw [hS,←size_data];exact hs
 have h0:(batF f h l).1=0:=hr
 have hb:bodyF f h l=(S.data.toList,0,-1):=by rw [bodyF_ok h0 (by omega),hS]
 constructor
 · obtain ⟨V,hV⟩:=of_data (sealL (80 :: 84 :: 2 :: S.data.toList))
   have ho:opnF (sealL (80 :: 84 :: 2 :: S.data.toList))=(2,S.data.toList,0):=by rw [opn_seal 2 _ (by rw [←hS];exact hp),if_neg (by decide)];rfl
   have hz:V.size=S.data.toList.length + 7:=by rw [size_data,←hV,sealL_len];simp
   have h8:1≤S.data.toList.length:=by rw [←hS];exact hp
   have h9:S.data.toList.length≤20000:=by rw [←size_data];exact hs
   refine ⟨V,by rw [second_ok hb,hV],hV,?_,by rw [←hV];exact ho,by rw [←hV,openL_seal],by omega,by omega,hb⟩
   rw [←hV,any_old ho (by decide),←hS]
   exact old_second hr hlen hp
 · obtain ⟨I,hI⟩:=of_data (packL S.data.toList)
   have ho:=opn_frm S.data.toList
   have hu:=unf_frm hr hlen
   rw [hS] at hu
   have htz:9≤T.size∧T.size≤400000:=by
     rw [size_data T,←hT,frm_len,putL_size (by rw [←size_data];exact hs),←size_data]
     refine ⟨by omega,?_⟩
     split <;> split <;> omega
   refine ⟨I,?_,by rw [←hT,←hI];exact ho,?_,?_,?_,by omega,htz.2⟩
   · rw [←hT,any_three ho];exact hu
   · rw [←hT];unfold frmL;rw [openL_seal]
   · rw [←hT];exact old_state ho
   · rw [←hT];exact hu
end Go.Proofs.YtjkbmfpomgcblaaGreatDoor
