import Derived.Test.YtjkbmfpomgcblaaGreatDoorKr20
namespace Go.Proofs.YtjkbmfpomgcblaaGreatDoor
open Go.RowKit
def EntriesIs (S:Nat) (s:ByteArray) (w:World) (e:Ending) (w':World):Prop :=
 w.grownBy w' (some S)∧((∃ v n l,vreadF s.data.toList=(0,n,l)∧e=.returned v∧ownsE w' w.heap.size v l∧Sc w' S s n) ∨
   ∃ (x:Nat) (pl:Int),vreadF s.data.toList=(x,0,[])∧x≠0∧e=.panicked [{ v:=.iface 156 (.agg #[.int .i64 (x:Int),.int .i64 pl]),recovered:=false }])
theorem grown_ne {w w':World} {base S:Nat} {v:Value} {l:List Ent} (ho:ownsE w base v l) (hS:S < base) (hg:w.grownBy w' (some S)):ownsE w' base v l :=
 World.ownsRow.kept ho hg (by
   cases hv:v.ownBlock with
   | none=>exact .inl rfl
   | some k=>exact .inr (fun e=>by have:=(ho.lt k hv).1;cases e;omega))
theorem grown_b {w w':World} (h:Below w.heap.size w w'):w.grownBy w' none:=⟨h.os,h.tape,h.output,h.size,fun k hk _=>h.block k hk⟩
set_option maxRecDepth 100000 in
set_option maxHeartbeats 8000000 in
theorem entries_any (S:Nat) (s:ByteArray) (w:World) (h:Sc w S s 0) (hs:s.size≤1000000) :
   Calls Tryz.prog 174 #[.pointer (some ⟨S,0,none⟩)] w (EntriesIs S s w):=by
 obtain ⟨_,c1,_,hS⟩:=h.cells
 have H:=Lib.hid h
 have c1':w.cell? ⟨S,1,none⟩=some (.int .i64 0):=c1
 have HLL:Hid (s.data.toList.length=s.size):=Lib.hid (show s.data.toList.length=s.size from rfl)
 clear h c1
 have hz:s.data.toList.drop 0=s.data.toList:=List.drop_zero
 rcases intL_cases s.data.toList 16 with ⟨x,hi,hx,_⟩ | ⟨R0,j0,hi,hR0,_,hj0,hjl,_⟩
 · have HI:=Lib.hid hi
   have HX:=Lib.hid hx
   clear hi hx
   go_enter Tryz.func174,Tryz.ntmps174
   go_wp2_with fail
   refine (next_bad S s 0 x 16 _ H.out hs (by omega) (by decide) (by decide) (by rw [hz];exact HI.out) HX.out).mono ?_
   rintro r w1 ⟨rfl,hg1⟩
   exact ⟨rfl,hg1,.inr ⟨x,_,vread_few HI.out HX.out,HX.out,rfl⟩⟩
 · have HI:=Lib.hid hi
   have hR16:R0≤16:=by omega
   rw [HLL.out] at hjl
   clear hi hR0
   go_enter Tryz.func174,Tryz.ntmps174
   go_wp2_with fail
   refine (next_ok S s 0 R0 j0 16 _ H.out hs (by omega) (by decide) (by decide) (by rw [hz];exact HI.out) hj0).mono ?_
   rintro r w1 ⟨rfl,hsc1,hg1⟩
   rw [Nat.zero_add] at hsc1
   have HSC1:=Lib.hid hsc1
   have HG1:=Lib.hid hg1
   clear hsc1 hg1 hz
   go_wp2
   go_loopw [4,5,6] (fun ov rv iv wr=>∃ (R a:Nat) (rep least:Int) (acc:List Ent),iv=.int .i64 R∧rv=.int .i64 rep∧R≤16∧a≤s.size∧((rep=-1∧least=0)∨(0≤rep∧least=rep + 2))∧rep + 300 * R≤5000∧acc.length + 20 * R≤400∧rdA R0 (s.data.toList.drop j0) j0 0 []=rdA R (s.data.toList.drop a) a least acc∧ownsE wr w.heap.size ov acc∧Sc wr S s a∧w.grownBy wr (some S)) (fun _ _ iv _=>(intOf iv).toNat)
   case atStart=>exact ⟨R0,j0,-1,0,[],rfl,rfl,hR16,hjl,.inl ⟨rfl,rfl⟩,by omega,by simp;omega,rfl,ownsE_nil _ _,HSC1.out,HG1.out⟩
   case round =>
     obtain ⟨R,a,rep,least,acc,rfl,rfl,hR,ha,hrl,hb,hal,heq,hown,hsc,hgr⟩:=hrel
     have HEQ:=Lib.hid heq
     have HOW:=Lib.hid hown
     have HSC:=Lib.hid hsc
     have HGR:=Lib.hid hgr
     have HAL:=Lib.hid hal
     obtain ⟨wo,rfl⟩:∃ wo,wo=wr:=⟨_,rfl⟩
     clear heq hown hsc hgr hal
     by_cases hR0:0 < R
     · obtain ⟨R',hR'⟩:∃ R',R=R' + 1:=⟨R - 1,by omega⟩
       have HR':=Lib.hid hR'
       have hRr:(R:Int) - 1=(R':Int):=by omega
       have hRw:IntKind.i64.wrap (R':Int)=(R':Int):=IntWalk.i64_in _ (by omega)
       clear hR'
       rcases intL_cases (s.data.toList.drop a) 200 with ⟨x,hi,hx,_⟩ | ⟨g,j,hi,hg2,_,hj,hjl2,_⟩
       · have HV:Hid (vreadF s.data.toList=(x,0,[])):=Lib.hid (show vreadF s.data.toList=(x,0,[]) from vread_bad HI.out (by rw [HEQ.out,HR'.out];exact rdA_bad (getR_gap hi hx)))
         have HI2:=Lib.hid hi
         have HX:=Lib.hid hx
         clear hi hx
         go_wp2_with fail
         refine (next_bad S s a x 200 _ HSC.out hs ha (by decide) (by decide) HI2.out HX.out).mono ?_
         rintro r w2 ⟨rfl,hg2⟩
         exact ⟨rfl,grown_on HGR.out hg2 (fun k hk=>.inl (Option.some.inj hk).symm),.inr ⟨x,_,HV.out,HX.out,rfl⟩⟩
       · rw [List.length_drop,HLL.out] at hjl2
         have HI2:=Lib.hid hi
         have hdd:(s.data.toList.drop a).drop j=s.data.toList.drop (a + j):=by rw [List.drop_drop]
         obtain ⟨rp1,hrp1⟩:∃ rp1:Int,rp1=least + g - 1:=⟨_,rfl⟩
         have HRP:=Lib.hid hrp1
         rcases intL_cases (s.data.toList.drop (a + j)) 16 with ⟨x,hi2,hx,_⟩ | ⟨c,i,hi2,hc2,_,hi10,hil,_⟩
         · have HV:Hid (vreadF s.data.toList=(x,0,[])):=Lib.hid (show vreadF s.data.toList=(x,0,[]) from vread_bad HI.out (by rw [HEQ.out,HR'.out];exact rdA_bad (getR_many hi (by rw [hdd];exact hi2) hx)))
           have HI3:=Lib.hid hi2
           have HX:=Lib.hid hx
           clear hi2 hx hi hdd
           have hrpw:IntKind.i64.wrap rp1=rp1:=IntWalk.i64_in _ (by omega)
           have hgw:IntKind.i64.wrap ((g:Int) + 1)=(g:Int) + 1:=IntWalk.i64_in _ (by omega)
           rcases hrl with ⟨rfl,hls⟩ | ⟨hr0,hls⟩
           · have e1:(-1:Int) + (g:Int)=rp1:=by omega
             have hl0:0≤least∧least≤5002:=by omega
             have hl1:least≤-1 + 2:=by omega
             clear hrp1 hls
             go_wp2_with fail
             refine (next_ok S s a g j 200 _ HSC.out hs ha (by decide) (by decide) HI2.out hj).mono ?_
             rintro r w2 ⟨rfl,hsc2,hg3⟩
             have HSC2:=Lib.hid hsc2
             have HG2:=Lib.hid (grown_on HGR.out hg3 (fun k hk=>.inl (Option.some.inj hk).symm))
             clear hsc2 hg3
             go_wp2_with fail
             refine (next_bad S s (a + j) x 16 _ HSC2.out hs (by omega) (by decide) (by decide) HI3.out HX.out).mono ?_
             rintro r w3 ⟨rfl,hg4⟩
             exact ⟨rfl,grown_on HG2.out hg4 (fun k hk=>.inl (Option.some.inj hk).symm),.inr ⟨x,_,HV.out,HX.out,rfl⟩⟩
           · have e1:rep + ((g:Int) + 1)=rp1:=by omega
             have hl0:0≤least∧least≤5002:=by omega
             have hl1:least≤rep + 2:=by omega
             clear hrp1 hls
             go_wp2_with fail
             refine (next_ok S s a g j 200 _ HSC.out hs ha (by decide) (by decide) HI2.out hj).mono ?_
             rintro r w2 ⟨rfl,hsc2,hg3⟩
             have HSC2:=Lib.hid hsc2
             have HG2:=Lib.hid (grown_on HGR.out hg3 (fun k hk=>.inl (Option.some.inj hk).symm))
             clear hsc2 hg3
             go_wp2_with fail
             refine (next_bad S s (a + j) x 16 _ HSC2.out hs (by omega) (by decide) (by decide) HI3.out HX.out).mono ?_
             rintro r w3 ⟨rfl,hg4⟩
             exact ⟨rfl,grown_on HG2.out hg4 (fun k hk=>.inl (Option.some.inj hk).symm),.inr ⟨x,_,HV.out,HX.out,rfl⟩⟩
         · rw [List.length_drop,HLL.out] at hil
           have HGET:Hid (getR (s.data.toList.drop a) 0 least []=tmA (c + 1) (s.data.toList.drop (a + j + i)) (0 + j + i) (least + g) []):=Lib.hid (show getR (s.data.toList.drop a) 0 least []=tmA (c + 1) (s.data.toList.drop (a + j + i)) (0 + j + i) (least + g) [] by
             rw [getR_ok hi (by rw [hdd];exact hi2),hdd,List.drop_drop])
           have HI3:=Lib.hid hi2
           clear hi2 hi hdd
           have hrpw:IntKind.i64.wrap rp1=rp1:=IntWalk.i64_in _ (by omega)
           have hgw:IntKind.i64.wrap ((g:Int) + 1)=(g:Int) + 1:=IntWalk.i64_in _ (by omega)
           rcases hrl with ⟨rfl,hls⟩ | ⟨hr0,hls⟩
           · have e1:(-1:Int) + (g:Int)=rp1:=by omega
             have hl0:0≤least∧least≤5002:=by omega
             have hl1:least≤-1 + 2:=by omega
             clear hrp1 hls
             go_wp2_with fail
             refine (next_ok S s a g j 200 _ HSC.out hs ha (by decide) (by decide) HI2.out hj).mono ?_
             rintro r w2 ⟨rfl,hsc2,hg3⟩
             have HSC2:=Lib.hid hsc2
             have HG2:=Lib.hid (grown_on HGR.out hg3 (fun k hk=>.inl (Option.some.inj hk).symm))
             have HOW2:=Lib.hid (grown_ne HOW.out hS hg3)
             clear hsc2 hg3
             go_wp2_with fail
             refine (next_ok S s (a + j) c i 16 _ HSC2.out hs (by omega) (by decide) (by decide) HI3.out hi10).mono ?_
             rintro r w3 ⟨rfl,hsc3,hg4⟩
             have HSC3:=Lib.hid hsc3
             have HG3:=Lib.hid (grown_on HG2.out hg4 (fun k hk=>.inl (Option.some.inj hk).symm))
             have HOW3:=Lib.hid (grown_ne HOW2.out hS hg4)
             clear hsc3 hg4
             go_wp2
             go_loopw [4,5,8] (fun ov rv kv wr=>∃ (T a2:Nat) (K rep2:Int) (racc:List Ent),kv=.int .i64 K∧K=(T:Int) - 1∧rv=.int .i64 rep2∧T≤c + 1∧a2≤s.size∧a≤a2∧getR (s.data.toList.drop a) 0 least []=tmA T (s.data.toList.drop a2) (a2 - a) (rep2 + 1) racc∧(T≤c→(racc.getLastD ⟨0,0⟩).rep=rep2)∧rep2 + T=least + g + c∧racc.length + T=c + 1∧ownsE wr w.heap.size ov (acc ++ racc)∧Sc wr S s a2∧w.grownBy wr (some S)) (fun _ _ kv _=>(intOf kv + 1).toNat)
             case atStart =>
               refine ⟨c + 1,a + j + i,(c:Int),rp1,[],rfl,by omega,rfl,by omega,by omega,by omega,?_,by omega,by have:=HRP.out;omega,by simp,by rw [List.append_nil];exact HOW3.out,HSC3.out,HG3.out⟩
               rw [HGET.out,show a + j + i - a=0 + j + i by omega,show rp1 + 1=least + g by have:=HRP.out;omega]
             case round =>
               obtain ⟨T,a2,K,rep2,racc,rfl,hK,rfl,hT,ha2,haa,hgt,hlst,hrt,hrc,hown,hsc,hgr⟩:=hrel
               have HGT:=Lib.hid hgt
               have HLST:=Lib.hid hlst
               have HOW4:=Lib.hid hown
               have HSC4:=Lib.hid hsc
               have HGR4:=Lib.hid hgr
               have HK:=Lib.hid hK
               have HRT:=Lib.hid hrt
               have HRC:=Lib.hid hrc
               have HACC:=HAL.out
               have hkb : -1≤K∧K≤16:=by omega
               have hrb : -1≤rep2∧rep2≤6000:=by omega
               clear hgt hlst hown hsc hgr
               by_cases hT0:0 < T
               · obtain ⟨T',hT'⟩:∃ T',T=T' + 1:=⟨T - 1,by omega⟩
                 have HT':=Lib.hid hT'
                 have hK0:0≤K:=by omega
                 have hKw:IntKind.i64.wrap (K - 1)=K - 1:=IntWalk.i64_in _ (by omega)
                 have hRw2:IntKind.i64.wrap (rep2 + 1)=rep2 + 1:=IntWalk.i64_in _ (by omega)
                 rcases intL_cases (s.data.toList.drop a2) 1099511627776 with ⟨x,hi3,hx,_⟩ | ⟨n,m,hi3,hn3,_,hm10,hml,_⟩
                 · have HV:Hid (vreadF s.data.toList=(x,0,[])):=Lib.hid (show vreadF s.data.toList=(x,0,[]) from vread_bad HI.out (by rw [HEQ.out,HR'.out];exact rdA_bad (by rw [HGT.out,hT'];exact tmA_bad hi3 hx)))
                   have HI4:=Lib.hid hi3
                   have HX:=Lib.hid hx
                   clear hi3 hx hK hT' hrt hrc
                   go_wp2_with fail
                   refine (next_bad S s a2 x 1099511627776 _ HSC4.out hs ha2 (by decide) (by decide) HI4.out HX.out).mono ?_
                   rintro r w5 ⟨rfl,hg5⟩
                   exact ⟨rfl,grown_on HGR4.out hg5 (fun k hk=>.inl (Option.some.inj hk).symm),.inr ⟨x,_,HV.out,HX.out,rfl⟩⟩
                 · rw [List.length_drop,HLL.out] at hml
                   have HI4:=Lib.hid hi3
                   have HGT2:Hid (getR (s.data.toList.drop a) 0 least []=tmA T' (s.data.toList.drop (a2 + m)) (a2 + m - a) (rep2 + 1 + 1) (racc ++ [⟨rep2 + 1,n⟩])):=Lib.hid (show getR (s.data.toList.drop a) 0 least []=tmA T' (s.data.toList.drop (a2 + m)) (a2 + m - a) (rep2 + 1 + 1) (racc ++ [⟨rep2 + 1,n⟩]) by
                     rw [HGT.out,hT',tmA_ok hi3,List.drop_drop,show a2 - a + m=a2 + m - a by omega])
                   have hlen:(acc ++ racc).length + 1≤1000000:=by rw [List.length_append];omega
                   clear hi3 hK hT' hrt hrc
                   go_wp2_with fail
                   refine (next_ok S s a2 n m 1099511627776 _ HSC4.out hs ha2 (by decide) (by decide) HI4.out hm10).mono ?_
                   rintro r w5 ⟨rfl,hsc5,hg5⟩
                   have HSC5:=Lib.hid hsc5
                   have HG5:=Lib.hid (grown_on HGR4.out hg5 (fun k hk=>.inl (Option.some.inj hk).symm))
                   have HOW5:=Lib.hid (grown_ne HOW4.out hS hg5)
                   have hz5:w.heap.size≤w5.heap.size:=HG5.out.size
                   clear hsc5 hg5
                   go_wp2_with (at_builtin;refine wpList_append_ent rfl _ _ rfl w.heap.size _ (acc ++ racc) rfl (HOW5.out.alloc _) w5.heap.size 1 rfl ⟨rep2 + 1,n⟩ ?c1 ?c2 ?c3 ?_)
                   case c1=>exact entBlk_new _ _ _
                   case c2=>exact hlen
                   case c3=>simp;omega
                   intro gg cap w6 ho6 hg6
                   have hne6:=(HOW5.out.alloc (.cells #[.int .i64 (rep2 + 1),.int .i64 n] 74)).lt
                   have HOW6:Hid (ownsE w6 w.heap.size (.slice (some ⟨gg,0,none⟩) (acc.length + racc.length + 1) cap) (acc ++ (racc ++ [⟨rep2 + 1,n⟩]))):=Lib.hid (by simpa using ho6)
                   have HG6:=Lib.hid (grown_on (grown_on HG5.out (World.grownBy_alloc w5 (.cells #[.int .i64 (rep2 + 1),.int .i64 n] 74) none) (fun k hk=>by cases hk)) hg6 (fun k hk=>.inr (hne6 k hk).1))
                   have HSC6:Hid (Sc w6 S s (a2 + m)):=Lib.hid (show Sc w6 S s (a2 + m) from (HSC5.out.kept (World.grownBy_alloc w5 _ none) (by simp)).kept hg6 (fun e=>by have:=(hne6 S e).1;omega))
                   clear ho6 hg6 hne6 hlen
                   go_wp2
                   go_roundw
                   case rel =>
                     have hT':=HT'.out
                     have hK:=HK.out
                     have hrt:=HRT.out
                     have hrc:=HRC.out
                     exact ⟨T',a2 + m,K - 1,rep2 + 1,racc ++ [⟨rep2 + 1,n⟩],rfl,by omega,rfl,by omega,by omega,by omega,HGT2.out,fun _=>by rw [getLastD_snoc],by omega,by rw [List.length_append];simp;omega,HOW6.out,HSC6.out,HG6.out⟩
                   case measure=>simp [intOf];omega
               · have hT00:T=0:=by omega
                 have hK1:K < 0:=by omega
                 have HE2:Hid (rdA R0 (s.data.toList.drop j0) j0 0 []=rdA R' (s.data.toList.drop a2) a2 (rep2 + 2) (acc ++ racc)):=Lib.hid (show rdA R0 (s.data.toList.drop j0) j0 0 []=rdA R' (s.data.toList.drop a2) a2 (rep2 + 2) (acc ++ racc) by
                   have hg:=HGT.out
                   rw [hT00] at hg
                   have hg3:getR (s.data.toList.drop a) 0 least []=.inr (racc,a2 - a):=hg
                   rw [HEQ.out,HR'.out,rdA_ok hg3,List.drop_drop,show a + (a2 - a)=a2 by omega,HLST.out (by omega)])
                 have hge:0≤rep2:=by omega
                 have hbb2:rep2 + 300 * R'≤5000:=by have:=HR'.out;omega
                 have hal2:(acc ++ racc).length + 20 * R'≤400:=by have:=HR'.out;rw [List.length_append];omega
                 have hRR:R' < R:=by have:=HR'.out;omega
                 have HFIN:Hid (0≤rep2∧rep2 + 300 * R'≤5000∧(acc ++ racc).length + 20 * R'≤400∧R' < R):=Lib.hid ⟨hge,hbb2,hal2,hRR⟩
                 clear hT00 hK hrt hrc hbb2 hal2
                 go_wp2
                 go_roundw
                 case rel=>exact ⟨R',a2,rep2,rep2 + 2,acc ++ racc,rfl,rfl,by have:=HFIN.out;omega,ha2,.inr ⟨hge,rfl⟩,HFIN.out.2.1,HFIN.out.2.2.1,HE2.out,HOW4.out,HSC4.out,HGR4.out⟩
                 case measure=>simp [intOf];have:=HFIN.out;omega
           · have e1:rep + ((g:Int) + 1)=rp1:=by omega
             have hl0:0≤least∧least≤5002:=by omega
             have hl1:least≤rep + 2:=by omega
             clear hrp1 hls
             go_wp2_with fail
             refine (next_ok S s a g j 200 _ HSC.out hs ha (by decide) (by decide) HI2.out hj).mono ?_
             rintro r w2 ⟨rfl,hsc2,hg3⟩
             have HSC2:=Lib.hid hsc2
             have HG2:=Lib.hid (grown_on HGR.out hg3 (fun k hk=>.inl (Option.some.inj hk).symm))
             have HOW2:=Lib.hid (grown_ne HOW.out hS hg3)
             clear hsc2 hg3
             go_wp2_with fail
             refine (next_ok S s (a + j) c i 16 _ HSC2.out hs (by omega) (by decide) (by decide) HI3.out hi10).mono ?_
             rintro r w3 ⟨rfl,hsc3,hg4⟩
             have HSC3:=Lib.hid hsc3
             have HG3:=Lib.hid (grown_on HG2.out hg4 (fun k hk=>.inl (Option.some.inj hk).symm))
             have HOW3:=Lib.hid (grown_ne HOW2.out hS hg4)
             clear hsc3 hg4
             go_wp2
             go_loopw [4,5,8] (fun ov rv kv wr=>∃ (T a2:Nat) (K rep2:Int) (racc:List Ent),kv=.int .i64 K∧K=(T:Int) - 1∧rv=.int .i64 rep2∧T≤c + 1∧a2≤s.size∧a≤a2∧getR (s.data.toList.drop a) 0 least []=tmA T (s.data.toList.drop a2) (a2 - a) (rep2 + 1) racc∧(T≤c→(racc.getLastD ⟨0,0⟩).rep=rep2)∧rep2 + T=least + g + c∧racc.length + T=c + 1∧ownsE wr w.heap.size ov (acc ++ racc)∧Sc wr S s a2∧w.grownBy wr (some S)) (fun _ _ kv _=>(intOf kv + 1).toNat)
             case atStart =>
               refine ⟨c + 1,a + j + i,(c:Int),rp1,[],rfl,by omega,rfl,by omega,by omega,by omega,?_,by omega,by have:=HRP.out;omega,by simp,by rw [List.append_nil];exact HOW3.out,HSC3.out,HG3.out⟩
               rw [HGET.out,show a + j + i - a=0 + j + i by omega,show rp1 + 1=least + g by have:=HRP.out;omega]
             case round =>
               obtain ⟨T,a2,K,rep2,racc,rfl,hK,rfl,hT,ha2,haa,hgt,hlst,hrt,hrc,hown,hsc,hgr⟩:=hrel
               have HGT:=Lib.hid hgt
               have HLST:=Lib.hid hlst
               have HOW4:=Lib.hid hown
               have HSC4:=Lib.hid hsc
               have HGR4:=Lib.hid hgr
               have HK:=Lib.hid hK
               have HRT:=Lib.hid hrt
               have HRC:=Lib.hid hrc
               have HACC:=HAL.out
               have hkb : -1≤K∧K≤16:=by omega
               have hrb : -1≤rep2∧rep2≤6000:=by omega
               clear hgt hlst hown hsc hgr
               by_cases hT0:0 < T
               · obtain ⟨T',hT'⟩:∃ T',T=T' + 1:=⟨T - 1,by omega⟩
                 have HT':=Lib.hid hT'
                 have hK0:0≤K:=by omega
                 have hKw:IntKind.i64.wrap (K - 1)=K - 1:=IntWalk.i64_in _ (by omega)
                 have hRw2:IntKind.i64.wrap (rep2 + 1)=rep2 + 1:=IntWalk.i64_in _ (by omega)
                 rcases intL_cases (s.data.toList.drop a2) 1099511627776 with ⟨x,hi3,hx,_⟩ | ⟨n,m,hi3,hn3,_,hm10,hml,_⟩
                 · have HV:Hid (vreadF s.data.toList=(x,0,[])):=Lib.hid (show vreadF s.data.toList=(x,0,[]) from vread_bad HI.out (by rw [HEQ.out,HR'.out];exact rdA_bad (by rw [HGT.out,hT'];exact tmA_bad hi3 hx)))
                   have HI4:=Lib.hid hi3
                   have HX:=Lib.hid hx
                   clear hi3 hx hK hT' hrt hrc
                   go_wp2_with fail
                   refine (next_bad S s a2 x 1099511627776 _ HSC4.out hs ha2 (by decide) (by decide) HI4.out HX.out).mono ?_
                   rintro r w5 ⟨rfl,hg5⟩
                   exact ⟨rfl,grown_on HGR4.out hg5 (fun k hk=>.inl (Option.some.inj hk).symm),.inr ⟨x,_,HV.out,HX.out,rfl⟩⟩
                 · rw [List.length_drop,HLL.out] at hml
                   have HI4:=Lib.hid hi3
                   have HGT2:Hid (getR (s.data.toList.drop a) 0 least []=tmA T' (s.data.toList.drop (a2 + m)) (a2 + m - a) (rep2 + 1 + 1) (racc ++ [⟨rep2 + 1,n⟩])):=Lib.hid (show getR (s.data.toList.drop a) 0 least []=tmA T' (s.data.toList.drop (a2 + m)) (a2 + m - a) (rep2 + 1 + 1) (racc ++ [⟨rep2 + 1,n⟩]) by
                     rw [HGT.out,hT',tmA_ok hi3,List.drop_drop,show a2 - a + m=a2 + m - a by omega])
                   have hlen:(acc ++ racc).length + 1≤1000000:=by rw [List.length_append];omega
                   clear hi3 hK hT' hrt hrc
                   go_wp2_with fail
                   refine (next_ok S s a2 n m 1099511627776 _ HSC4.out hs ha2 (by decide) (by decide) HI4.out hm10).mono ?_
                   rintro r w5 ⟨rfl,hsc5,hg5⟩
                   have HSC5:=Lib.hid hsc5
                   have HG5:=Lib.hid (grown_on HGR4.out hg5 (fun k hk=>.inl (Option.some.inj hk).symm))
                   have HOW5:=Lib.hid (grown_ne HOW4.out hS hg5)
                   have hz5:w.heap.size≤w5.heap.size:=HG5.out.size
                   clear hsc5 hg5
                   go_wp2_with (at_builtin;refine wpList_append_ent rfl _ _ rfl w.heap.size _ (acc ++ racc) rfl (HOW5.out.alloc _) w5.heap.size 1 rfl ⟨rep2 + 1,n⟩ ?c1 ?c2 ?c3 ?_)
                   case c1=>exact entBlk_new _ _ _
                   case c2=>exact hlen
                   case c3=>simp;omega
                   intro gg cap w6 ho6 hg6
                   have hne6:=(HOW5.out.alloc (.cells #[.int .i64 (rep2 + 1),.int .i64 n] 74)).lt
                   have HOW6:Hid (ownsE w6 w.heap.size (.slice (some ⟨gg,0,none⟩) (acc.length + racc.length + 1) cap) (acc ++ (racc ++ [⟨rep2 + 1,n⟩]))):=Lib.hid (by simpa using ho6)
                   have HG6:=Lib.hid (grown_on (grown_on HG5.out (World.grownBy_alloc w5 (.cells #[.int .i64 (rep2 + 1),.int .i64 n] 74) none) (fun k hk=>by cases hk)) hg6 (fun k hk=>.inr (hne6 k hk).1))
                   have HSC6:Hid (Sc w6 S s (a2 + m)):=Lib.hid (show Sc w6 S s (a2 + m) from (HSC5.out.kept (World.grownBy_alloc w5 _ none) (by simp)).kept hg6 (fun e=>by have:=(hne6 S e).1;omega))
                   clear ho6 hg6 hne6 hlen
                   go_wp2
                   go_roundw
                   case rel =>
                     have hT':=HT'.out
                     have hK:=HK.out
                     have hrt:=HRT.out
                     have hrc:=HRC.out
                     exact ⟨T',a2 + m,K - 1,rep2 + 1,racc ++ [⟨rep2 + 1,n⟩],rfl,by omega,rfl,by omega,by omega,by omega,HGT2.out,fun _=>by rw [getLastD_snoc],by omega,by rw [List.length_append];simp;omega,HOW6.out,HSC6.out,HG6.out⟩
                   case measure=>simp [intOf];omega
               · have hT00:T=0:=by omega
                 have hK1:K < 0:=by omega
                 have HE2:Hid (rdA R0 (s.data.toList.drop j0) j0 0 []=rdA R' (s.data.toList.drop a2) a2 (rep2 + 2) (acc ++ racc)):=Lib.hid (show rdA R0 (s.data.toList.drop j0) j0 0 []=rdA R' (s.data.toList.drop a2) a2 (rep2 + 2) (acc ++ racc) by
                   have hg:=HGT.out
                   rw [hT00] at hg
                   have hg3:getR (s.data.toList.drop a) 0 least []=.inr (racc,a2 - a):=hg
                   rw [HEQ.out,HR'.out,rdA_ok hg3,List.drop_drop,show a + (a2 - a)=a2 by omega,HLST.out (by omega)])
                 have hge:0≤rep2:=by omega
                 have hbb2:rep2 + 300 * R'≤5000:=by have:=HR'.out;omega
                 have hal2:(acc ++ racc).length + 20 * R'≤400:=by have:=HR'.out;rw [List.length_append];omega
                 have hRR:R' < R:=by have:=HR'.out;omega
                 have HFIN:Hid (0≤rep2∧rep2 + 300 * R'≤5000∧(acc ++ racc).length + 20 * R'≤400∧R' < R):=Lib.hid ⟨hge,hbb2,hal2,hRR⟩
                 clear hT00 hK hrt hrc hbb2 hal2
                 go_wp2
                 go_roundw
                 case rel=>exact ⟨R',a2,rep2,rep2 + 2,acc ++ racc,rfl,rfl,by have:=HFIN.out;omega,ha2,.inr ⟨hge,rfl⟩,HFIN.out.2.1,HFIN.out.2.2.1,HE2.out,HOW4.out,HSC4.out,HGR4.out⟩
                 case measure=>simp [intOf];have:=HFIN.out;omega
     · have hR00:R=0:=by omega
       have hR01:¬ 0 < (R:Int):=by omega
       have HEQ0:Hid (rdA R0 (s.data.toList.drop j0) j0 0 []=.inr (acc,a)):=Lib.hid (show rdA R0 (s.data.toList.drop j0) j0 0 []=.inr (acc,a) by rw [HEQ.out,hR00];rfl)
       obtain ⟨e,pl,hv⟩:∃ e pl,vrightF acc=(e,pl):=⟨_,_,rfl⟩
       have HVR:=Lib.hid hv
       have HACC:Hid (acc.length≤9223372036854775807):=Lib.hid (show acc.length≤9223372036854775807 by have:=HAL.out;omega)
       clear hR00 hv
       go_wp2_with fail
       refine (rvright_as _ acc e pl _ HOW.out.is HACC.out HVR.out).mono ?_
       rintro r w2 ⟨rfl,hb2⟩
       have HB2:=Lib.hid hb2
       clear hb2
       go_wp2_with fail
       refine (is_any e pl _).mono ?_
       rintro r w3 ⟨rfl,hb3⟩
       have c0:w3.cell? ⟨w2.heap.size,0,none⟩=some (.int .i64 e):=(hb3.cell (by simp)).trans (by simp)
       have HG3:Hid (w.grownBy w3 (some S)):=Lib.hid (grown_on (grown_on (grown_on HGR.out (grown_b HB2.out) (fun k hk=>by cases hk)) (World.grownBy_alloc w2 _ none) (fun k hk=>by cases hk)) (grown_b hb3) (fun k hk=>by cases hk))
       have HSC3:Hid (Sc w3 S s a):=Lib.hid (((HSC.out.kept (grown_b HB2.out) (by simp)).kept (World.grownBy_alloc w2 _ none) (by simp)).kept (grown_b hb3) (by simp))
       have HOW3:=Lib.hid (((HOW.out.below HB2.out).alloc _).below hb3)
       clear hb3
       by_cases he:e=0
       · have hbe:((e:Int) == 0)=true:=by simp;exact he
         have HV:Hid (vreadF s.data.toList=(0,a,acc)):=Lib.hid (vread_ok HI.out HEQ0.out (by rw [HVR.out];exact he))
         rw [hbe]
         clear hbe he
         go_wp2
         go_ret
         exact ⟨HG3.out,.inl ⟨_,a,acc,HV.out,rfl,HOW3.out,HSC3.out⟩⟩
       · have hbe:((e:Int) == 0)=false:=by simp;exact he
         have HV:Hid (vreadF s.data.toList=(e,0,[])):=Lib.hid (show vreadF s.data.toList=(e,0,[]) by
           have:=vread_wrong HI.out HEQ0.out (by rw [HVR.out];exact he)
           rw [HVR.out] at this;exact this)
         have HE:=Lib.hid he
         rw [hbe]
         clear hbe he
         go_wp2_with fail
         refine (throw_any e 0 _).mono ?_
         rintro r w' ⟨rfl,rfl⟩
         exact ⟨rfl,HG3.out,.inr ⟨e,0,HV.out,HE.out,rfl⟩⟩
end Go.Proofs.YtjkbmfpomgcblaaGreatDoor
