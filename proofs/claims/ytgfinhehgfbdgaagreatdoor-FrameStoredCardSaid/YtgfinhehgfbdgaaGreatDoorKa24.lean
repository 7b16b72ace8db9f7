import Derived.Test.YtgfinhehgfbdgaaGreatDoorKa23
import Derived.Test.YtgfinhehgfbdgaaGreatDoorKa18
import Derived.BigQuiet
import Derived.Deep.QuietTactic
import Derived.Outline
import Derived.Test.YtgfinhehgfbdgaaGreatDoorKa09
import Derived.Test.YtgfinhehgfbdgaaGreatDoorKa00
import Derived.Test.YtgfinhehgfbdgaaGreatDoorKa21
import Derived.Test.YtgfinhehgfbdgaaGreatDoorKa10
import Derived.Test.YtgfinhehgfbdgaaGreatDoorKa02
import Derived.Test.YtgfinhehgfbdgaaGreatDoorKa01
import Derived.Test.YtgfinhehgfbdgaaGreatDoorKa05
import Derived.Test.YtgfinhehgfbdgaaGreatDoorKa03
import Derived.Test.YtgfinhehgfbdgaaGreatDoorKa06
import Derived.Test.YtgfinhehgfbdgaaGreatDoorProg
import Derived.Handy
import Derived.Lib.Hide
import Derived.Laws.OwnMore
import Derived.WalkKit
import Derived.KernelRfl
import Derived.Below
import Derived.Deep.RegionHeld3
import Derived.RegionTactic
import Derived.Lib.Join
import Derived.WalkSmall
import Derived.Test.YtgfinhehgfbdgaaGreatDoorKa19
import Derived.Test.YtgfinhehgfbdgaaGreatDoorKa07
namespace Go.Proofs.YtgfinhehgfbdgaaGreatDoor
open Go.RowKit
set_option maxRecDepth 100000 in
theorem behind_any (v:Value) (l:List Ent) (w:World) (hv:IsEnts w v l) (h0:l≠[]) (hl:l.length≤1000000) (hr:∀ e∈l,0≤e.rep∧e.rep≤1000000) :
   Calls Tryz.prog 167 #[v] w fun r w'=>r=.returned (.int .i64 ((l.getLastD ⟨0,0⟩).rep + 2))∧w=w':=by
 have hlen:0 < l.length:=List.length_pos_iff.2 h0
 obtain ⟨a1,c1,rfl,f1⟩:=hv.form
 have ht:l[l.length - 1]? = some (l.getLastD ⟨0,0⟩):=by
   rw [←List.getLast?_eq_getElem?]
   cases l with
   | nil=>exact absurd rfl h0
   | cons e t=>simp [List.getLast?_cons]
 obtain ⟨b1,o1,rfl,_,p0,_⟩:=f1 _ _ ht
 have hm:=hr _ (List.mem_of_getElem? ht)
 generalize l.getLastD ⟨0,0⟩=e at *
 obtain ⟨rep,time⟩:=e
 simp only at p0 hm ⊢
 obtain ⟨n,hn⟩:∃ n,n=l.length:=⟨_,rfl⟩
 rw [←hn] at hl hlen p0 ⊢
 obtain ⟨j,hj⟩:∃ j,j=n - 1:=⟨_,rfl⟩
 rw [←hj] at p0
 have hj1:(n:Int) - 1=(j:Int):=by omega
 have hj2:j < n:=by omega
 clear hv f1 hn ht hr h0 hj
 go_enter Tryz.func167,Tryz.ntmps167
 go_wp2
 go_ret
 exact ⟨rfl,rfl⟩
def CutIs (w:World) (u:Value) (l:List Ent) (rs:List (List Ent)) (e:Ending) (w':World):Prop :=
 ∃ v vs,e=.returned v∧ownsR w' w.heap.size v vs∧(∀ W,IsEnts W u l→areE W vs rs)∧vs.length=rs.length∧Below w.heap.size w w'
set_option maxRecDepth 100000 in
set_option maxHeartbeats 4000000 in
theorem cut_any (v:Value) (l:List Ent) (w:World) (hv:IsEnts w v l) (hl:l.length≤100000) (hr:∀ e∈l,0≤e.rep∧e.rep≤1000000) :
   Calls Tryz.prog 166 #[v] w (CutIs w v l (runsL l)):=by
 by_cases hz:l.length=0
 · obtain rfl:=List.length_eq_zero_iff.1 hz
   obtain ⟨a1,c1,rfl,_⟩:=hv.form
   have HR:Hid (runsL ([]:List Ent)=[]):=rfl
   rw [HR.out]
   clear hv hl hr hz
   go_enter Tryz.func166,Tryz.ntmps166
   go_wp2
   refine wp_loop_rounds 1 ?_
   rw [rounds_succ]
   go_wp2
   go_ret
   exact ⟨_,[],rfl,ownsR_nil _ _,fun _ _=>trivial,rfl,Below.refl _ _⟩
 · obtain ⟨b,off,c,rfl,hlc,hb,hcells⟩:=hv.lies (by omega)
   have HC:=Lib.hid hcells
   obtain ⟨a1,c1,hav,f1⟩:=hv.form
   simp only [Value.slice.injEq,true_and] at hav
   obtain ⟨rfl,rfl⟩:=hav
   have F1:=Lib.hid f1
   have HR:=Lib.hid hr
   obtain ⟨n,hn⟩:∃ n,n=l.length:=⟨_,rfl⟩
   rw [←hn] at hl hlc hz ⊢ hv
   have HV:=Lib.hid hv
   have HN:=Lib.hid hn
   have HLC:=Lib.hid hlc
   clear hv f1 hn hcells hr
   go_enter Tryz.func166,Tryz.ntmps166
   go_wp2
   go_loopw [3,4,8] (fun rv fv i wr=>∃ (k fr:Nat) (vs:List Value) (R:List (List Ent)),k≤n∧i=.int .i64 k∧fv=.int .i64 fr∧fr≤k∧vs.length≤k∧R ++ cutA ((l.take k).drop fr) (l.drop k)=runsL l∧ownsR wr w.heap.size rv vs∧(∀ W,IsEnts W (.slice (some ⟨b,off,none⟩) n c) l→areE W vs R)∧Below w.heap.size w wr) (fun _ _ i _=>n - (intOf i).toNat)
   case atStart=>exact ⟨0,0,[],[],by omega,rfl,rfl,by omega,Nat.le_refl _,rfl,ownsR_nil _ _,(fun _ _=>trivial),Below.refl _ _⟩
   case round =>
     obtain ⟨k,fr,vs,R,hk,rfl,rfl,hfr,hvs,heq,hown,hare,hbel⟩:=hrel
     have HEQ:=Lib.hid heq
     have HO:=Lib.hid hown
     have HA:=Lib.hid hare
     have HB:=Lib.hid hbel
     have hzr:=hbel.size
     clear heq hown hare hbel
     by_cases hlt:k < n
     · have hkl:k < l.length:=by have:=HN.out;omega
       obtain ⟨t,ht⟩:∃ t,l[k]? = some t:=⟨l[k],List.getElem?_eq_getElem hkl⟩
       have hd:l.drop k=t :: l.drop (k + 1):=by
         rw [List.drop_eq_getElem_cons hkl];congr 1
         rw [List.getElem?_eq_getElem hkl] at ht;exact Option.some.inj ht
       have htk:l.take (k + 1)=l.take k ++ [t]:=by
         rw [List.take_succ_eq_append_getElem hkl];congr 2
         rw [List.getElem?_eq_getElem hkl] at ht;exact Option.some.inj ht
       have hcur:(l.take (k + 1)).drop fr=(l.take k).drop fr ++ [t]:=by
         rw [htk,List.drop_append_of_le_length (by rw [List.length_take];omega)]
       obtain ⟨b1,o1,hbo,_,p0,_⟩:=F1.out k t ht
       simp only [Option.some.injEq,Addr.mk.injEq,and_true] at hbo
       obtain ⟨rfl,rfl⟩:=hbo
       have hm:=HR.out t (List.mem_of_getElem? ht)
       have q0:=(HB.out.cell (p:=⟨b,off + k * 2,none⟩) hb).trans p0
       obtain ⟨k1,hk1⟩:∃ k1,k1=k + 1:=⟨_,rfl⟩
       rw [←hk1] at hd htk hcur
       have hfk:fr < k1:=by omega
       have hfk':(fr:Int)≤(k1:Int):=by omega
       have hkc:k1≤c:=by have:=HLC.out;omega
       have hkc':(k1:Int)≤(c:Int):=by omega
       have HP:Hid (∀ W,IsEnts W (.slice (some ⟨b,off,none⟩) n c) l→IsEnts W (.slice (some ⟨b,off + fr * 2,none⟩) (k1 - fr) (c - fr)) ((l.take k1).drop fr)):=Lib.hid (show ∀ W,IsEnts W (.slice (some ⟨b,off,none⟩) n c) l→IsEnts W (.slice (some ⟨b,off + fr * 2,none⟩) (k1 - fr) (c - fr)) ((l.take k1).drop fr) from fun W hW=>by
         obtain ⟨b',off',c',hv',hc',hb',hcs'⟩:=hW.lies (by omega)
         simp only [Value.slice.injEq,Option.some.injEq,Addr.mk.injEq,and_true] at hv'
         obtain ⟨⟨rfl,rfl⟩,_,rfl⟩:=hv'
         exact IsEnts.part hcs' hb' fr k1 (by have:=HN.out;omega) hfk rfl (by omega))
       by_cases hlast:k1=n
       · subst hlast
         have hdn:l.drop k1=[]:=List.drop_eq_nil_of_le (by have:=HN.out;omega)
         have hcl:cutA ((l.take k).drop fr) (l.drop k)=[(l.take k1).drop fr]:=by
           rw [hd,hdn,cutA_one,hcur]
         have HS:Hid ((R ++ [(l.take k1).drop fr]) ++ cutA ((l.take k1).drop k1) (l.drop k1)=runsL l):=Lib.hid (show (R ++ [(l.take k1).drop fr]) ++ cutA ((l.take k1).drop k1) (l.drop k1)=runsL l by
           rw [←HEQ.out,hcl,hdn]
           have:∀ cur,cutA cur []=[]:=fun _=>rfl
           rw [this,List.append_nil])
         have hw1:(k:Int) + 1=(k1:Int):=by omega
         have hw2:IntKind.i64.wrap ((k:Int) + 1)=(k1:Int):=by rw [hw1];exact IntWalk.i64_in _ (by omega)
         have hw3:IntKind.i64.wrap (t.rep + 1)=t.rep + 1:=IntWalk.i64_in _ (by omega)
         have HK1:=Lib.hid hk1
         clear hcl hcur htk hd ht p0 hm hk1 hdn
         go_wp2
         go_quiet (fail)
         clear hw2 hw3
         go_wp2_with (at_builtin;refine wpList_append_run rfl _ _ rfl w.heap.size _ vs rfl ((HO.out.drewN _).alloc _) ⟨wr.heap.size,0,none⟩ 1 rfl (.slice (some ⟨b,off + fr * 2,none⟩) (k1 - fr) (c - fr)) ⟨_,_,_,rfl⟩ ?c1 ?c2 ?c3 ?_)
         case c1=>simp [Addr.add];exact cell_of_row _ _ 0 _ _ (0,0) (heap_alloc_new (World.drewN wr _) _)
         case c2=>omega
         case c3=>simp;omega
         · intro g cap w2 ho2 hg2
           have HB2:Hid (Below w.heap.size w w2):=(((below_drewN HB.out _).alloc (by simp;omega) _).grown hg2 (by simp;omega) (fun g hg=>(HO.out.lt g hg).1))
           have HO2:=Lib.hid ho2
           have HA2:Hid (∀ W,IsEnts W (.slice (some ⟨b,off,none⟩) k1 c) l→areE W (vs ++ [(.slice (some ⟨b,off + fr * 2,none⟩) (k1 - fr) (c - fr):Value)]) (R ++ [(l.take k1).drop fr])):=Lib.hid (fun W hW=>areE_snoc (HP.out W hW) (HA.out W hW))
           obtain ⟨vs2,hvs2⟩:∃ vs2,vs ++ [(.slice (some ⟨b,off + fr * 2,none⟩) (k1 - fr) (c - fr):Value)]=vs2:=⟨_,rfl⟩
           have hvl:vs2.length=vs.length + 1:=by rw [←hvs2];simp
           rw [hvs2] at HO2 HA2
           rw [←hvl] at HO2 ⊢
           clear ho2 hg2 hvs2
           go_wp2
           go_roundw
           case rel=>exact ⟨k1,k1,vs2,_,by omega,by first | rfl | go_num,by first | rfl | go_num,Nat.le_refl _,by have:=HK1.out;omega,HS.out,HO2.out,HA2.out,HB2.out⟩
           case measure=>have:=HK1.out;simp [intOf];omega
       · have hk1l:k1 < l.length:=by have:=HN.out;omega
         obtain ⟨d,hdd⟩:∃ d,l[k1]? = some d:=⟨l[k1],List.getElem?_eq_getElem hk1l⟩
         have hd1:l.drop k1=d :: l.drop (k1 + 1):=by
           rw [List.drop_eq_getElem_cons hk1l];congr 1
           rw [List.getElem?_eq_getElem hk1l] at hdd;exact Option.some.inj hdd
         obtain ⟨b1,o1,hbo,_,p1,_⟩:=F1.out k1 d hdd
         simp only [Option.some.injEq,Addr.mk.injEq,and_true] at hbo
         obtain ⟨rfl,rfl⟩:=hbo
         have q1:=(HB.out.cell (p:=⟨b,off + k1 * 2,none⟩) hb).trans p1
         have hk1n:k1 < n:=by omega
         have hk1n':(k1:Int) < (n:Int):=by omega
         have hn1:((k1:Int) == (n:Int))=false:=by simp;omega
         by_cases hgp:t.rep + 1 < d.rep
         · have hcl : cutA ((l.take k).drop fr) (l.drop k) = (l.take k1).drop fr :: cutA [] (l.drop k1) := by
             rw [hd,hd1,cutA_cut hgp,hcur]
           have HS:Hid ((R ++ [(l.take k1).drop fr]) ++ cutA ((l.take k1).drop k1) (l.drop k1)=runsL l):=Lib.hid (show (R ++ [(l.take k1).drop fr]) ++ cutA ((l.take k1).drop k1) (l.drop k1)=runsL l by
             rw [←HEQ.out,hcl,List.drop_eq_nil_of_le (show (l.take k1).length≤k1 by rw [List.length_take];omega)]
             simp)
           have hw1:(k:Int) + 1=(k1:Int):=by omega
           have hw2:IntKind.i64.wrap ((k:Int) + 1)=(k1:Int):=by rw [hw1];exact IntWalk.i64_in _ (by omega)
           have hw3:IntKind.i64.wrap (t.rep + 1)=t.rep + 1:=IntWalk.i64_in _ (by omega)
           have HK1:=Lib.hid hk1
           clear hcl hcur htk hd ht p0 hm hk1 p1 hdd hd1
           go_wp2
           go_quiet (fail)
           clear hw2 hw3
           go_wp2_with (at_builtin;refine wpList_append_run rfl _ _ rfl w.heap.size _ vs rfl ((HO.out.drewN _).alloc _) ⟨wr.heap.size,0,none⟩ 1 rfl (.slice (some ⟨b,off + fr * 2,none⟩) (k1 - fr) (c - fr)) ⟨_,_,_,rfl⟩ ?c1 ?c2 ?c3 ?_)
           case c1=>simp [Addr.add];exact cell_of_row _ _ 0 _ _ (0,0) (heap_alloc_new (World.drewN wr _) _)
           case c2=>omega
           case c3=>simp;omega
           · intro g cap w2 ho2 hg2
             have HB2:Hid (Below w.heap.size w w2):=(((below_drewN HB.out _).alloc (by simp;omega) _).grown hg2 (by simp;omega) (fun g hg=>(HO.out.lt g hg).1))
             have HO2:=Lib.hid ho2
             have HA2:Hid (∀ W,IsEnts W (.slice (some ⟨b,off,none⟩) n c) l→areE W (vs ++ [(.slice (some ⟨b,off + fr * 2,none⟩) (k1 - fr) (c - fr):Value)]) (R ++ [(l.take k1).drop fr])):=Lib.hid (fun W hW=>areE_snoc (HP.out W hW) (HA.out W hW))
             obtain ⟨vs2,hvs2⟩:∃ vs2,vs ++ [(.slice (some ⟨b,off + fr * 2,none⟩) (k1 - fr) (c - fr):Value)]=vs2:=⟨_,rfl⟩
             have hvl:vs2.length=vs.length + 1:=by rw [←hvs2];simp
             rw [hvs2] at HO2 HA2
             rw [←hvl] at HO2 ⊢
             clear ho2 hg2 hvs2
             go_wp2
             go_roundw
             case rel=>exact ⟨k1,k1,vs2,_,by omega,by first | rfl | go_num,by first | rfl | go_num,Nat.le_refl _,by have:=HK1.out;omega,HS.out,HO2.out,HA2.out,HB2.out⟩
             case measure=>have:=HK1.out;simp [intOf];omega
         · have hcl : cutA ((l.take k).drop fr) (l.drop k) = cutA ((l.take k1).drop fr) (l.drop k1) := by
             rw [hd,hd1,cutA_on hgp,hcur]
           have HS:Hid (R ++ cutA ((l.take k1).drop fr) (l.drop k1)=runsL l):=Lib.hid (show R ++ cutA ((l.take k1).drop fr) (l.drop k1)=runsL l by
             rw [←HEQ.out,hcl])
           have hgp':d.rep≤t.rep + 1:=by omega
           have hw1:(k:Int) + 1=(k1:Int):=by omega
           have hw2:IntKind.i64.wrap ((k:Int) + 1)=(k1:Int):=by rw [hw1];exact IntWalk.i64_in _ (by omega)
           have hw3:IntKind.i64.wrap (t.rep + 1)=t.rep + 1:=IntWalk.i64_in _ (by omega)
           have HK1:=Lib.hid hk1
           clear hcl hcur htk hd ht p0 hm hk1 p1 hdd hd1
           go_wp2
           go_quiet (fail)
           clear hw2 hw3
           go_wp2
           go_roundw
           case rel=>exact ⟨k1,fr,vs,R,by omega,by first | rfl | go_num,rfl,by have:=HK1.out;omega,by have:=HK1.out;omega,HS.out,HO.out.drewN _,HA.out,below_drewN HB.out _⟩
           case measure=>have:=HK1.out;simp [intOf];omega
     · have hkn:k=n:=by omega
       have HRE:Hid (R=runsL l):=Lib.hid (show R=runsL l by
         rw [←HEQ.out,List.drop_eq_nil_of_le (show l.length≤k by have:=HN.out;omega)]
         have:∀ cur,cutA cur []=[]:=fun _=>rfl
         rw [this,List.append_nil])
       obtain rfl:=HRE.out
       go_wp2
       go_ret
       exact ⟨_,vs,rfl,HO.out,HA.out,areE_len (HA.out w HV.out),HB.out⟩
end Go.Proofs.YtgfinhehgfbdgaaGreatDoor
namespace Go.Proofs.YtgfinhehgfbdgaaGreatDoor
open Go.RowKit
def numB (K N:Int):ByteArray:=if K=3 then ⟨(putL (zigN N).toNat).toArray⟩ else if K=4 then ⟨(putL N.toNat).toArray⟩ else ⟨#[]⟩
def valB (K:Int) (val:ByteArray):ByteArray:=if hasV K=true then spanB val else ⟨#[]⟩
def tailB (K:Int) (val:ByteArray) (N:Int):ByteArray:=numB K N ++ valB K val
def getN (K:Int) (l:List UInt8):Int×Nat×Nat:=if K=3 then (zagN (getL l).1,(getL l).2.1,(getL l).2.2) else if K=4 then (((intL l 1000).1:Int),(intL l 1000).2.1,(intL l 1000).2.2) else (0,0,0)
def getV (K:Int) (l:List UInt8):List UInt8×Nat×Nat:=if hasV K=true then getS l else ([],0,0)
theorem getN_le (K:Int) (l:List UInt8):(getN K l).2.1≤l.length∧(getN K l).2.1≤10:=by
 unfold getN
 rcases getL_cases l with ⟨e,hg,he⟩ | ⟨n,k,hg,hn,hk1,hk2,hk3⟩
 · split
   · rw [hg];simp
   · split
     · rw [intL_bad hg he];simp
     · simp
 · split
   · rw [hg];simp;omega
   · split
     · by_cases hm:(1000:Int) < 0∨(1000:Int) < n
       · rw [intL_range hg hm];simp
       · rw [intL_ok hg hm];simp;omega
     · simp
end Go.Proofs.YtgfinhehgfbdgaaGreatDoor
namespace Go.Proofs.YtgfinhehgfbdgaaGreatDoor
open Go.RowKit
def sqL (s:List UInt8):List UInt8:=writeL (toks s)
theorem sq_is (s:List UInt8) (h:s.length≤20000):writeF (toks s)=sqL s∧rightF (toks s) 0 0=(0,-1):=by
 have h1:=(toks_text s h).1
 refine ⟨?_,h1⟩
 unfold writeF;rw [if_pos (by rw [h1])];rfl
theorem toks_few (s:List UInt8) (h:s.length≤400000):(toks s).length≤9223372036854775807∧∀ t∈toks s,t.own.size≤140737488351232:=by
 have h1:=tks_len s s.length 0 0
 refine ⟨by unfold toks;omega,fun t ht=>?_⟩
 have:=tks_own s _ _ _ t ht
 omega
set_option maxRecDepth 100000 in
set_option maxHeartbeats 1000000 in
theorem lzsq_any (s:ByteArray) (w:World) (hs:s.size≤20000) :
   Calls Tryz.prog 28 #[.string s] w fun e w'=>e=.returned (.tuple #[.string ⟨(sqL s.data.toList).toArray⟩,.nilIface])∧Below w.heap.size w w':=by
 have hl:s.data.toList.length≤20000:=by rw [←size_data];exact hs
 obtain ⟨f1,f2⟩:=toks_few s.data.toList (by omega)
 obtain ⟨g1,g2⟩:=sq_is s.data.toList hl
 have F1:=Lib.hid f1
 have F2:=Lib.hid f2
 have G1:=Lib.hid g1
 have G2:=Lib.hid g2
 clear f1 f2 g1 g2 hl
 go_enter Tryz.func28,Tryz.ntmps28
 go_wp2_with fail
 refine (tokens_any s _ (by omega)).mono ?_
 rintro r w1 ⟨v,rfl,hown,hb1⟩
 have HO:=Lib.hid hown
 have HB1:=Lib.hid hb1
 clear hown hb1
 go_wp2_with fail
 refine (lzwrite_any v _ _ HO.out.is F1.out F2.out).mono ?_
 rintro r w2 ⟨err,rfl,hat,hb2⟩
 obtain rfl:err=.nilIface:=by
   rcases hat with ⟨_,h⟩ | ⟨h,_⟩
   · exact h
   · exact absurd (by rw [G2.out]) h
 rw [G1.out]
 have HB2:Hid (Below w.heap.size w w2):=HB1.out.trans (hb2.mono HB1.out.size)
 clear hat hb2
 go_wp2
 go_ret2
 exact ⟨rfl,HB2.out⟩
end Go.Proofs.YtgfinhehgfbdgaaGreatDoor
namespace Go.Proofs.YtgfinhehgfbdgaaGreatDoor
open Go.RowKit
theorem listF_dup {T:List ByteArray} {l:List Int} (h:(dupR T).1≠0):listF T l=([],dupR T):=by
 unfold dupR at h ⊢
 unfold listF
 split at h
 · rename_i i hi;rw [hi]
 · simp at h
theorem listF_ord {T:List ByteArray} {l:List Int} (h:(dupR T).1=0) (ho:(ordG T.length 0 l 0).1≠0):listF T l=([],ordG T.length 0 l 0):=by
 unfold dupR at h
 unfold listF
 split at h
 · simp at h
 · rename_i hi;rw [hi];simp only [if_neg ho]
theorem listF_good {T:List ByteArray} {l:List Int} (h:(dupR T).1=0) (ho:(ordG T.length 0 l 0).1=0):listF T l=(outG T l,0,-1):=by
 unfold dupR at h
 unfold listF
 split at h
 · simp at h
 · rename_i hi;rw [hi];simp only [if_pos ho]
theorem ordG_in (K:Nat) (l:List Int):∀ told i,(ordG K told l i).1=0→∀ n∈l,0≤n∧n < (K:Int):=by
 induction l with
 | nil=>intro told i _ n hn;cases hn
 | cons z r ih =>
   intro told i h n hn
   unfold ordG at h
   split at h
   · simp at h
   · rename_i h1
     split at h
     · simp at h
     · rcases List.mem_cons.1 hn with rfl | hn
       · omega
       · exact ih _ _ h n hn
theorem outG_snoc {T:List ByteArray} {l:List Int} {k j:Nat} {s:ByteArray} (h:l[k]? = some (j:Int)) (hs:T[j]? = some s):outG T (l.take (k + 1))=outG T (l.take k) ++ [s]:=by
 obtain ⟨hk,e⟩:=List.getElem?_eq_some_iff.1 h
 rw [←List.take_append_getElem hk,e]
 unfold outG
 rw [List.map_append]
 simp [hs]
def ListIs (w:World) (r:List ByteArray×Nat×Int) (e:Ending) (w':World):Prop :=
 ∃ v err,e=.returned (.tuple #[v,err])∧ownsS w' w.heap.size v r.1∧anyErr w' err r.2∧Below w.heap.size w w'
set_option maxRecDepth 100000 in
set_option maxHeartbeats 4000000 in
theorem klist_any (v u:Value) (T:List ByteArray) (l:List Int) (w:World) (hv:IsTexts w v T) (hu:IsNums w u l) (hT:T.length≤1000000) (hl:l.length≤1000000) (hs:∀ s∈T,s.size≤140737488351232) :
   Calls Tryz.prog 154 #[v,u] w (ListIs w (listF T l)):=by
 have HV:=Lib.hid hv
 have HU:=Lib.hid hu
 have HS:=Lib.hid hs
 have HTL:=Lib.hid hT
 have HLL:=Lib.hid hl
 obtain ⟨a1,c1,rfl,_,f1⟩:=hv
 obtain ⟨a2,c2,rfl,_,f2⟩:=hu
 have F1:=Lib.hid f1
 have F2:=Lib.hid f2
 obtain ⟨m,hm⟩:∃ m,m=T.length:=⟨_,rfl⟩
 obtain ⟨n,hn⟩:∃ n,n=l.length:=⟨_,rfl⟩
 rw [←hm] at hT HV ⊢
 rw [←hn] at hl HU ⊢
 have HM:=Lib.hid hm
 have HN:=Lib.hid hn
 clear f1 f2 hm hn hs hT hl
 go_enter Tryz.func154,Tryz.ntmps154
 go_wp2_with fail
 refine (ktwice_any _ T w HV.out HTL.out HS.out).mono ?_
 rintro r w1 ⟨err,rfl,he,hb1⟩
 by_cases h0:(dupR T).1=0
 · obtain rfl:=anyErr.nil (.inl he) h0
   have HU1:=Lib.hid (HU.out.below hb1)
   have HB1:=Lib.hid hb1
   have H0:=Lib.hid h0
   clear he hb1 h0
   go_wp2_with fail
   refine (korder_any _ l m w1 HU1.out HLL.out (by rw [HM.out];exact HTL.out)).mono ?_
   rintro r w2 ⟨err,rfl,he,hb2⟩
   have HB2:=Lib.hid (HB1.out.trans (hb2.mono HB1.out.size))
   by_cases h1:(ordG m 0 l 0).1=0
   · obtain rfl:=he.nil h1
     have HR:Hid (listF T l=(outG T l,0,-1)):=Lib.hid (listF_good H0.out (by rw [←HM.out];exact h1))
     have HI:=Lib.hid (ordG_in m l 0 0 h1)
     have hm':m≤1000000:=by rw [HM.out];exact HTL.out
     have hn':n≤1000000:=by rw [HN.out];exact HLL.out
     clear he hb2 h1 HB1 HU1
     go_wp2
     go_loopw [8,28] (fun x i wr=>∃ k:Nat,k≤m∧i=.int .i64 k∧ownsS wr w.heap.size x (T.take k)∧Below w.heap.size w wr) (fun _ i _=>m - (intOf i).toNat)
     case atStart=>exact ⟨0,Nat.zero_le _,rfl,ownsS_nil _ _,HB2.out⟩
     case round =>
       obtain ⟨k,hk,rfl,hos,hbel⟩:=hrel
       have HO:=Lib.hid hos
       have HB:=Lib.hid hbel
       obtain ⟨ad,cp,rfl,hcp,g1⟩:=hos.isTexts
       have hkl:(T.take k).length=k:=by rw [List.length_take];have:=HM.out;omega
       have HKL:=Lib.hid hkl
       rw [hkl] at HO hcp
       rw [hkl]
       clear hos hbel hkl
       by_cases hlt:k < m
       · obtain ⟨s, hs⟩ : ∃ s, T[k]? = some s := ⟨T[k]'(by have := HM.out; omega), List.getElem?_eq_getElem _⟩
         obtain ⟨b1,o1,rfl,hb1,p0⟩:=F1.out k s hs
         have q0:=(HB.out.cell (p:=⟨b1,o1 + k,none⟩) hb1).trans p0
         have HSZ:Hid (s.size≤140737488351232):=Lib.hid (HS.out s (List.mem_of_getElem? hs))
         have HTK:Hid (T.take k ++ [s]=T.take (k + 1)):=Lib.hid (show _=_ by obtain ⟨hk2,e⟩:=List.getElem?_eq_some_iff.1 hs;rw [←e,List.take_append_getElem hk2])
         clear p0 hs g1
         go_wp2_with fail
         refine (kclone_any s _ (by have:=HSZ.out;omega)).mono ?_
         rintro r w3 ⟨rfl,hb3⟩
         have HB3:=Lib.hid (HB.out.trans (hb3.mono HB.out.size))
         have HO3:=Lib.hid (HO.out.below hb3)
         clear hb3 HB HO
         go_wp2_with (at_builtin;refine wpList_append_str rfl _ _ rfl w.heap.size _ (T.take k) rfl (HO3.out.alloc _) ⟨w3.heap.size,0,none⟩ 1 rfl s (by simp [Addr.add]) (by have:=HKL.out;omega) (by have:=HB3.out.size;simp;omega) ?_)
         intro g cap w4 ho4 hg4
         have HB4:Hid (Below w.heap.size w w4):=(HB3.out.alloc HB3.out.size _).grown hg4 (by have:=HB3.out.size;simp;omega) (fun g hg=>(HO3.out.lt g hg).1)
         rw [HTK.out] at ho4
         have HO4:=Lib.hid ho4
         clear ho4 hg4
         go_wp2
         go_roundw
         case rel=>exact ⟨k + 1,by omega,by go_num,HO4.out,HB4.out⟩
         case measure=>simp [intOf];omega
       · obtain rfl:k=m:=by omega
         have hTk:T.take k=T:=List.take_of_length_le (by rw [HM.out];exact Nat.le_refl _)
         rw [hTk] at HO g1
         obtain ⟨wp,hwp⟩:∃ wp,wp=wr:=⟨_,rfl⟩
         rw [←hwp] at HO HB g1 ⊢
         have G1:=Lib.hid g1
         clear g1 hTk hwp
         go_wp2
         go_loopw [9,40] (fun y i wo=>∃ q:Nat,q≤n∧i=.int .i64 q∧ownsS wo wp.heap.size y (outG T (l.take q))∧Below wp.heap.size wp wo) (fun _ i _=>n - (intOf i).toNat)
         case atStart=>exact ⟨0,Nat.zero_le _,rfl,ownsS_nil _ _,Below.refl _ _⟩
         case round =>
           obtain ⟨q,hq,rfl,hos,hbel⟩:=hrel
           have HO2:=Lib.hid hos
           have HBO:=Lib.hid hbel
           clear hos hbel
           by_cases hlt2:q < n
           · obtain ⟨z, hz⟩ : ∃ z, l[q]? = some z := ⟨l[q]'(by have := HN.out; omega), List.getElem?_eq_getElem _⟩
             obtain ⟨b2,o2,rfl,hb2,p2⟩:=F2.out q z hz
             obtain ⟨z0,z1⟩:=HI.out z (List.mem_of_getElem? hz)
             obtain ⟨j,rfl⟩:∃ j:Nat,z=j:=⟨z.toNat,by omega⟩
             have hjm:j < k:=by omega
             obtain ⟨s, hs⟩ : ∃ s, T[j]? = some s := ⟨T[j]'(by have := HM.out; omega), List.getElem?_eq_getElem _⟩
             obtain ⟨b3,o3,rfl,hb3,p3⟩:=G1.out j s hs
             have HBW:=Lib.hid (HB.out.trans (HBO.out.mono HB.out.size))
             have q2:=(HBW.out.cell (p:=⟨b2,o2 + q,none⟩) hb2).trans p2
             have q3:=(HBO.out.cell (p:=⟨b3,o3 + j,none⟩) hb3).trans p3
             have HX:=Lib.hid (outG_snoc hz hs)
             have hz2:(outG T (l.take q)).length=q:=by unfold outG;rw [List.length_map,List.length_take];have:=HN.out;omega
             have HZ2:=Lib.hid hz2
             clear p2 p3 hz hs z0 z1 hz2
             go_wp2_with (at_builtin;refine wpList_append_str rfl _ _ rfl wp.heap.size _ (outG T (l.take q)) rfl (HO2.out.alloc _) ⟨wr.heap.size,0,none⟩ 1 rfl s (by simp [Addr.add]) (by have:=HZ2.out;omega) (by have:=HBO.out.size;simp;omega) ?_)
             intro g cap w4 ho4 hg4
             have HB4:Hid (Below wp.heap.size wp w4):=(HBO.out.alloc HBO.out.size _).grown hg4 (by have:=HBO.out.size;simp;omega) (fun g hg=>(HO2.out.lt g hg).1)
             rw [←HX.out] at ho4
             have HO4:=Lib.hid ho4
             clear ho4 hg4
             go_wp2
             go_roundw
             case rel=>exact ⟨q + 1,by omega,by go_num,HO4.out,HB4.out⟩
             case measure=>simp [intOf];omega
           · obtain rfl:q=n:=by omega
             have hlk:l.take q=l:=List.take_of_length_le (by rw [HN.out];exact Nat.le_refl _)
             have HO3:=Lib.hid (show ownsS wr wp.heap.size _ (outG T l) from hlk ▸ HO2.out)
             clear hlk
             go_wp2
             go_ret2
             rw [HR.out]
             exact ⟨_,_,rfl,HO3.out.mono HB.out.size,.inl (.inl ⟨rfl,rfl⟩),HB.out.trans (HBO.out.mono HB.out.size)⟩
   · obtain ⟨t,x,rfl⟩:=he.iface h1
     have HR:Hid (listF T l=([],ordG m 0 l 0)):=Lib.hid (by rw [HM.out];exact listF_ord H0.out (by rw [←HM.out];exact h1))
     have HE:=Lib.hid he
     clear he hb2
     go_wp2
     go_ret2
     rw [HR.out]
     exact ⟨_,_,rfl,ownsS_nil _ _,HE.out,HB2.out⟩
 · have he2:anyErr w1 err (dupR T):=.inl he
   obtain ⟨t,x,rfl⟩:=he2.iface h0
   have HR:Hid (listF T l=([],dupR T)):=Lib.hid (listF_dup h0)
   have HE:=Lib.hid he2
   have HB1:=Lib.hid hb1
   clear he he2 hb1
   go_wp2
   go_ret2
   rw [HR.out]
   exact ⟨_,_,rfl,ownsS_nil _ _,HE.out,HB1.out⟩
end Go.Proofs.YtgfinhehgfbdgaaGreatDoor
