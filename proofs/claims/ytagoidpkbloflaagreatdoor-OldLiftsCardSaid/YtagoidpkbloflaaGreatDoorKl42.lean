import Derived.Test.YtagoidpkbloflaaGreatDoorKlq
import Derived.Test.YtagoidpkbloflaaGreatDoorKl40
namespace Go.Proofs.YtagoidpkbloflaaGreatDoor
open Lib (hid)
set_option maxRecDepth 100000
set_option maxHeartbeats 8000000
open Go.RowKit
def U1 (s:List UInt8) (k:Nat) (f h:List Ent) (a:Nat):Prop :=
 (k=0∧f=[]∧h=[]∧a=0)∨(k=1∧aj s=(0,a,f)∧h=[])∨(k=2∧∃ n m,aj s=(0,n,f)∧aj (s.drop n)=(0,m,h)∧a=n+m)
def PT (B R:Nat) (w:World):Prop:=w.heap[R+1]? = some (.cells #[.pointer (some ⟨B,0,none⟩),.pointer (some ⟨B,1,none⟩)] 69 (0,0))
theorem PT.kept {B R:Nat} {w w':World} {row:Option Nat} (h:PT B R w) (hg:w.grownBy w' row) (hr:row≠some (R+1)):PT B R w' :=
 (hg.block _ (DF.1 h).1 (fun e=>hr e.symm)).trans h
theorem PT.below {B R:Nat} {w w':World} (h:PT B R w) (hb:Below w.heap.size w w'):PT B R w':=h.kept (ag hb) (by simp)
theorem kr (x:ByteArray) (e n:Nat) (l:List Ent) (w:World) (hs:x.size≤1000000) (h:aj x.data.toList=(e,n,l)) :
 Calls Tryz.prog 65 #[.string x] w fun r w'=>∃ v,r=.returned (.tuple #[v,.int .i64 (n:Int),.agg #[.int .i64 (e:Int),.int .i64 (-1)]])∧ai w' w.heap.size v l∧Below w.heap.size w w':=by
 refine (At x w hs).mono ?_;rintro r w' ⟨v,rfl,h2,h3⟩;rw [h] at h2 ⊢;exact ⟨v,rfl,h2,h3⟩
theorem wn {w w':World} {o:Obj} {row:Option Nat} (h:(w.alloc o).drew.grownBy w' row):w.grownBy w' row :=
 ⟨h.os,h.tape,h.output,Dl (show w.heap.size≤(w.alloc o).heap.size by simp) h.size,fun k hk hne=>(h.block k (show k<(w.alloc o).heap.size by simp;omega) hne).trans (Below.heap_alloc _ _ _ hk)⟩
theorem qV (T R K:Int) (key s V:ByteArray) (N:Int) (k:Nat) (w:World) (hk:key.size≤140737488351232) (hs:s.size≤140737488351232) (h0:aB T R K key s.data.toList=0) (hV:bP K s.data.toList=V) (hN:(getN K s.data.toList).1=N) (hn:bZ K s.data.toList=k) :
 Calls Tryz.prog 38 #[.agg #[.int .i64 T,.int .i64 R,.int .i64 K,.string key,.string ⟨#[]⟩,.int .i64 0],.string s] w fun r w'=>r=.returned (.tuple #[.agg #[.int .i64 T,.int .i64 R,.int .i64 K,.string key,.string V,.int .i64 N],.int .i64 (k:Int),.int .i64 0])∧Below w.heap.size w w':=by
 refine (qT T R K key ⟨#[]⟩ 0 s w hk hs).mono ?_;rintro r w' ⟨⟨v,rfl,hf⟩,hb⟩;refine ⟨?_,hb⟩;rcases hf with ⟨h1,_⟩ | ⟨_,rfl⟩
 ·exact absurd h0 h1
 ·rw [←hV,←hN,←hn];rfl
theorem qU (T R K:Int) (key s:ByteArray) (e:Nat) (w:World) (hk:key.size≤140737488351232) (hs:s.size≤140737488351232) (h0:aB T R K key s.data.toList=e) (he:e≠0) :
 Calls Tryz.prog 38 #[.agg #[.int .i64 T,.int .i64 R,.int .i64 K,.string key,.string ⟨#[]⟩,.int .i64 0],.string s] w fun r w'=>r=.returned (.tuple #[.agg #[.int .i64 0,.int .i64 0,.int .i64 0,.string ⟨#[]⟩,.string ⟨#[]⟩,.int .i64 0],.int .i64 0,.int .i64 (e:Int)])∧Below w.heap.size w w':=by
 refine (qT T R K key ⟨#[]⟩ 0 s w hk hs).mono ?_;rintro r w' ⟨⟨v,rfl,hf⟩,hb⟩;refine ⟨?_,hb⟩;rcases hf with ⟨_,rfl⟩ | ⟨h1,_⟩
 ·rw [h0];rfl
 ·rw [h0] at h1;exact absurd h1 he
theorem wK {l:List UInt8} {most:Int} {t k e:Nat} (h:intL l most=(t,k,e)) (he:e≠0):intL l most=(0,0,e):=by
 rcases ar l most with ⟨e',h1,_⟩ | ⟨n',k',h1,_⟩
 ·rw [h1] at h;simp only [Dz] at h;rw [h1,h.2.2]
 ·rw [h1] at h;simp only [Dz] at h;exact absurd h.2.2.symm he
theorem vB {w:World} {b o n c i:Nat} {l:List Ent} {t:Ent} (h:ae w (.slice (some ⟨b,o,none⟩) n c) l) (hi:l[i]? = some t):w.cell? ⟨b,o+i * 2,none⟩=some (.int .i64 t.rep):=by
 obtain ⟨a,c',e,f⟩:=h.form;obtain ⟨b',o',ea,_,q,_⟩:=f i t hi;injection e with e1
 rw [ea] at e1;injection e1 with e1
 injection e1 with e1 e2
 subst e1 e2;exact q
theorem Bu {w:World} {b o n c i:Nat} {l:List ByteArray} {t:ByteArray} (h:ba w (.slice (some ⟨b,o,none⟩) n c) l) (hi:l[i]? = some t):w.cell? ⟨b,o+i,none⟩=some (.string t):=by
 obtain ⟨a,c',e,_,f⟩:=h;obtain ⟨b',o',ea,_,q⟩:=f i t hi;injection e with e1
 rw [ea] at e1;injection e1 with e1
 injection e1 with e1 e2
 subst e1 e2;exact q
theorem zV (v u:Value) (T:List ByteArray) (l:List Int) (lr:List ByteArray) (le:Nat) (lp:Int) (w:World) (hv:ba w v T) (hu:bW w u l) (hT:T.length≤1000000) (hl:l.length≤1000000) (h:aT T l=(lr,le,lp)) :
 Calls Tryz.prog 66 #[v,u] w fun r w'=>∃ al nl cl,r=.returned (.tuple #[.slice al nl cl,.agg #[.int .i64 (le:Int),.int .i64 lp]])∧Below w.heap.size w w':=by
 refine (zU v u T l w hv hu hT hl).mono ?_;rintro r w' ⟨x,rfl,ho,hb⟩;rw [h] at ho ⊢;obtain ⟨al,cl,rfl,_⟩:=ho.isTexts;exact ⟨al,_,cl,rfl,hb⟩
theorem Am (s:ByteArray) (w:World) (hs:s.size≤maxLen) (hbig:20000<s.size) :
 Calls Tryz.prog 31 #[.string s] w (gH w s.data.toList):=by
 unfold maxLen at hs;have HRES:=hid (nN (s:=s.data.toList) (by rw [←ac];exact hbig));have d1:(20000:Int)<(s.size:Int):=by omega
 have HW:Hid (UD w ((w.alloc (.cells #[.slice none 0 0,.slice none 0 0,.slice none 0 0] 25)).alloc (.cells #[.int .i64 0,.int .i64 0] 28)) (.slice none 0 0) (.slice none 0 0) (.slice none 0 0) 0 0):=hid (by
  refine ⟨?_,Em w _ _,((Below.refl _ _).alloc (Db _) _).alloc (by simp) _,by simp⟩;rw [Below.heap_alloc _ _ _ (by simp)];exact Dg w _)
 go_enter_defers Tryz.func31,Tryz.ntmps31
 go_wp2;generalize (w.alloc (.cells #[.slice none 0 0,.slice none 0 0,.slice none 0 0] 25)).alloc (.cells #[.int .i64 0,.int .i64 0] 28)=W at HW ⊢;obtain ⟨⟨c0,c1,c2⟩,⟨x0,x1⟩,⟨z0,z1,z2⟩,z3,z4⟩:=HW.out.cells;refine E6 ?_
 go_region_law (first | (go_simp;go_at_call 12;(refine (bO 4 _).mono ?_;rintro r w1 ⟨rfl,hb1⟩;have HB1:=hid (UD.kept HW.out (ag (bQ hb1)) (fun k hk=>by cases hk));clear hb1;obtain ⟨⟨c0,c1,c2⟩,⟨x0,x1⟩,⟨z0,z1,z2⟩,z3,z4⟩:=HB1.out.cells)))
 all_goals
  refine DT ?_;have HB2:=hid ((((HB1.out.put (o:=0) (v:=.slice none 0 0) rfl).put (o:=1) (v:=.slice none 0 0) rfl).put (o:=2) (v:=.slice none 0 0) rfl).fault 4 (-1));go_wp2;generalize ((((w1.setCell ⟨w.heap.size,0,none⟩ (.slice none 0 0)).setCell ⟨w.heap.size,1,none⟩ (.slice none 0 0)).setCell ⟨w.heap.size,2,none⟩ (.slice none 0 0)).setCell ⟨w.heap.size+1,0,none⟩ (.int .i64 4)).setCell ⟨w.heap.size+1,1,none⟩ (.int .i64 (-1))=WZ at HB2 ⊢;obtain ⟨⟨q0,q1,q2⟩,⟨v2,v3⟩,_⟩:=HB2.out.cells;exact ⟨.tuple #[.agg #[.slice none 0 0,.slice none 0 0,.slice none 0 0],.agg #[.int .i64 4,.int .i64 (-1)]],by simp [results,Tryz.results31,go_sem,q0,q1,q2,v2,v3],HB2.out.2.2.1,.inl ⟨4,-1,HRES.out,rfl⟩⟩
theorem An (s:ByteArray) (w:World) (hs:s.size≤20000) :
 Calls Tryz.prog 31 #[.string s] w (gH w s.data.toList):=by
 have HSL:Hid (s.data.toList.length=s.size):=hid (ac s).symm;have HS6:Hid (s.size≤1000000):=hid (by omega);have HL:Hid (¬ 20000<s.data.toList.length):=hid (by rw [HSL.out];omega);have d1:(s.size:Int)≤20000:=by omega
 have hmf:∀ (fn:Fn) (first cap:Array Value) (w:World),(Instr.makeFunc fn first cap).run Tryz.prog w=.ok (.func fn first cap) w:=fun _ _ _ _=>rfl
 go_enter_defers Tryz.func31,Tryz.ntmps31
 go_wp2_with fail
 refine (dF _).mono ?_;rintro r w1 ⟨rfl,hb1⟩;have HA:Hid (UD w w1 (.slice none 0 0) (.slice none 0 0) (.slice none 0 0) 0 0):=hid (by
  have h0:UD w ((w.alloc (.cells #[.slice none 0 0,.slice none 0 0,.slice none 0 0] 25)).alloc (.cells #[.int .i64 0,.int .i64 0] 28)) (.slice none 0 0) (.slice none 0 0) (.slice none 0 0) 0 0:=by
   refine ⟨?_,Em w _ _,((Below.refl _ _).alloc (Db _) _).alloc (by simp) _,by simp⟩;rw [Below.heap_alloc _ _ _ (by simp)];exact Dg w _
  exact h0.kept (ag hb1) (fun k hk=>by cases hk))
 clear hb1;obtain ⟨_,⟨c0,c1⟩,_,z0,z1⟩:=HA.out.cells;have HUS0:Hid (US w w1.heap.size s 0 (.slice none 0 0) (.slice none 0 0) (.slice none 0 0) (.slice none 0 0) (.slice none 0 0) [] [] [] [] [] ((((w1.setCell ⟨w.heap.size+1,0,none⟩ (.int .i64 0)).setCell ⟨w.heap.size+1,1,none⟩ (.int .i64 (-1))).alloc (.cells #[.string s,.int .i64 0] 68)).alloc (.cells #[.pointer (some ⟨w.heap.size,0,none⟩),.pointer (some ⟨w.heap.size,1,none⟩)] 69))):=hid (by
  have h1:=HA.out.fault 0 (-1);have hsz:((w1.setCell ⟨w.heap.size+1,0,none⟩ (.int .i64 0)).setCell ⟨w.heap.size+1,1,none⟩ (.int .i64 (-1))).heap.size=w1.heap.size:=by simp
  generalize (w1.setCell ⟨w.heap.size+1,0,none⟩ (.int .i64 0)).setCell ⟨w.heap.size+1,1,none⟩ (.int .i64 (-1))=w2 at h1 hsz ⊢;refine ⟨(h1.kept (E5 _ _ none) (fun k hk=>by cases hk)).kept (E5 _ _ none) (fun k hk=>by cases hk),?_,⟨cm _ _,cm _ _,bK _ _,dr _ _,dU _ _⟩,HA.out.2.2.2,by simp;omega⟩;unfold Sc;rw [←hsz,Below.heap_alloc _ _ _ (by simp)];exact Dg w2 _)
 have HPT0:Hid (PT w.heap.size w1.heap.size ((((w1.setCell ⟨w.heap.size+1,0,none⟩ (.int .i64 0)).setCell ⟨w.heap.size+1,1,none⟩ (.int .i64 (-1))).alloc (.cells #[.string s,.int .i64 0] 68)).alloc (.cells #[.pointer (some ⟨w.heap.size,0,none⟩),.pointer (some ⟨w.heap.size,1,none⟩)] 69))):=hid (by
  have hsz:(((w1.setCell ⟨w.heap.size+1,0,none⟩ (.int .i64 0)).setCell ⟨w.heap.size+1,1,none⟩ (.int .i64 (-1))).alloc (.cells #[.string s,.int .i64 0] 68)).heap.size=w1.heap.size+1:=by simp
  unfold PT;rw [←hsz];exact Dg _ _)
 go_wp2;clear c0 c1 z0 z1 HA;generalize (((w1.setCell ⟨w.heap.size+1,0,none⟩ (.int .i64 0)).setCell ⟨w.heap.size+1,1,none⟩ (.int .i64 (-1))).alloc (.cells #[.string s,.int .i64 0] 68)).alloc (.cells #[.pointer (some ⟨w.heap.size,0,none⟩),.pointer (some ⟨w.heap.size,1,none⟩)] 69)=W2 at HUS0 HPT0 ⊢;generalize w1.heap.size=R at HUS0 HPT0 ⊢
 go_loopw [40] (fun i wr=>∃ (k a:Nat) (f h:List Ent) (vf vh:Value),k≤2∧i=.int .i64 k∧U1 s.data.toList k f h a∧a≤s.size∧US w R s a vf vh (.slice none 0 0) (.slice none 0 0) (.slice none 0 0) f h [] [] [] wr∧PT w.heap.size R wr) (fun i _=>2-(intOf i).toNat)
 case atStart=>exact ⟨0,0,[],[],.slice none 0 0,.slice none 0 0,by omega,rfl,.inl ⟨rfl,rfl,rfl,rfl⟩,Ds _,HUS0.out,HPT0.out⟩
 case round =>
  obtain ⟨k,a,f,h,vf,vh,hk,rfl,hu,ha,us,pt⟩:=hrel;have HUS:=hid us;have HPT:=hid pt;clear us pt HUS0 HPT0;rcases hu with ⟨rfl,rfl,rfl,ha0⟩ | ⟨rfl,h1,rfl⟩ | ⟨rfl,n,m,h1,h2,hanm⟩
  ·clear hk;have HA0:=hid ha0;clear ha0;have HPR:=hid HPT.out;have p0:wr.cell? ⟨R+1,0,none⟩=some (.pointer (some ⟨w.heap.size,0,none⟩)):=Dd _ _ 0 _ _ (0,0) HPT.out;obtain ⟨s0,s1,sz,sl⟩:=HUS.out.2.1.cells;have d3:(0:Int)≤(a:Int):=by omega
   have d4:(a:Int)≤(s.size:Int):=by omega
   rcases lb s.data.toList with ⟨e,h1,he⟩ | ⟨n,f,h1⟩
   ·have HRES:Hid (unbF s.data.toList=.inl (e,(a:Int))):=hid (by rw [HA0.out];exact nL HL.out h1 he);have HRV:Hid (aj (s.extract a s.size).data.toList=(e,0,[])):=hid (by rw [aS,HA0.out];exact h1);clear h1;have hne:((e:Int) == 0)=false:=by simp;omega
    go_wp2_with fail
    refine (kr (s.extract a s.size) e 0 [] wr (Dl bS HS6.out) HRV.out).mono ?_;rintro r w2 ⟨v,rfl,hv,hb2⟩;obtain ⟨av,cv,rfl,_⟩:=hv.is.form;have HUA:=hid ((HUS.out.below hb2).alloc (.cells #[.int .i64 (e:Int),.int .i64 (-1)] 28));have HGA:Hid (rowF (w2.alloc (.cells #[.int .i64 (e:Int),.int .i64 (-1)] 28)) w2.heap.size (e:Int) (-1)):=hid (Dg w2 _);clear hv hb2;go_wp2_with fail
    refine (aH (e:Int) (-1) _).mono ?_;rintro r w3 ⟨rfl,hb3⟩;rw [hne];have HU3:=hid (HUA.out.below hb3);have HG3:=hid (rowF.below HGA.out hb3 (by simp));clear hb3 s0 s1 sz sl p0;obtain ⟨s0,s1,sz,sl⟩:=HU3.out.2.1.cells;obtain ⟨g0,g1⟩:=HG3.out.at;go_wp2
    go_still_tail 6,(by kernel_rfl)
    change wpList _ _ _ _ _ w3.drew
    have HU4:=hid HU3.out.drew;generalize w3.drew=w4 at HU4 ⊢;go_wp2_with fail
    refine (bi e ((a:Int):Int) _).mono ?_;rintro r w' ⟨rfl,rfl⟩;exact cN e ((a:Int):Int) HU4.out.1 he HRES.out _ rfl rfl
   ·have hn2:=(fh h1).2.2.1;rw [HSL.out] at hn2;have hn3:a+n≤s.size:=by rw [HA0.out];omega
    have HRV:Hid (aj (s.extract a s.size).data.toList=(0,n,f)):=hid (by rw [aS,HA0.out];exact h1);have HF:=hid h1;clear h1;go_wp2_with fail
    refine (kr (s.extract a s.size) 0 n f wr (Dl bS HS6.out) HRV.out).mono ?_;rintro r w2 ⟨v,rfl,hv,hb2⟩;obtain ⟨av,cv,rfl,_⟩:=hv.is.form;obtain ⟨nv,hnv⟩:∃ nv,nv=f.length:=⟨_,rfl⟩;rw [←hnv] at hv ⊢;have HUA:=hid ((HUS.out.below hb2).alloc (.cells #[.int .i64 ((0:Nat):Int),.int .i64 (-1)] 28));have HVA:=hid ((hv.alloc (.cells #[.int .i64 ((0:Nat):Int),.int .i64 (-1)] 28)).mono HUS.out.2.2.2.2);have HPA:Hid (PT w.heap.size R (w2.alloc (.cells #[.int .i64 ((0:Nat):Int),.int .i64 (-1)] 28))):=hid ((HPT.out.below hb2).below ((Below.refl _ _).alloc (Db _) _));clear hv hb2 hnv;go_wp2_with fail
    refine (aH 0 (-1) _).mono ?_;rintro r w3 ⟨rfl,hb3⟩;have HU3:=hid (HUA.out.below hb3);have HV3:=hid (HVA.out.below hb3);have HP3:=hid (HPA.out.below hb3);clear hb3 s0 s1 sz sl p0;obtain ⟨⟨c0,c1,c2⟩,_,⟨z0,z1,z2⟩,_⟩:=HU3.out.1.cells;have HU5:=hid (HU3.out.from HV3.out);have HP5:=hid (HP3.out.kept (bz w3 w.heap.size 0 (.slice av nv cv)) (by have:=HUS.out.2.2.2.1;simp;omega));clear HU3 HV3 HP3 HUA HVA HPA;obtain ⟨s0,s1,sz,sl⟩:=HU5.out.2.1.cells;obtain ⟨b,hb⟩:∃ b,b=a+n:=⟨_,rfl⟩;have hbs:b≤s.size:=by omega
    have kw:IntKind.i64.wrap (((a:Int):Int)+(n:Int))=(b:Int):=by rw [show ((a:Int):Int)+(n:Int)=(b:Int) by rw [hb];simp];exact Dh _ (by omega)
    have HBB:=hid hb;clear hb;go_wp2;have HU6:Hid (US w R s b _ _ _ _ _ _ _ _ _ _ _):=hid (HU5.out.go (b:=b));have HP6:=hid (HP5.out.kept (bz _ R 1 (.int .i64 (b:Int))) (by simp));go_roundw
    case rel=>exact ⟨1,b,f,[],.slice av nv cv,vh,by omega,by go_num,.inr (.inl ⟨rfl,by rw [HBB.out,HA0.out,DY];exact HF.out,rfl⟩),hbs,HU6.out,HP6.out⟩
    case measure=>simp [intOf]
  ·clear hk;have HPR:=hid HPT.out;have p0:wr.cell? ⟨R+1,1,none⟩=some (.pointer (some ⟨w.heap.size,1,none⟩)):=Dd _ _ 1 _ _ (0,0) HPT.out;obtain ⟨s0,s1,sz,sl⟩:=HUS.out.2.1.cells;have d3:(0:Int)≤(a:Int):=by omega
   have d4:(a:Int)≤(s.size:Int):=by omega
   have H1:=hid h1;clear h1;rcases lb (s.data.toList.drop a) with ⟨e,h2,he⟩ | ⟨m,h,h2⟩
   ·have HRES:=hid (nM HL.out H1.out h2 he);have HRV:Hid (aj (s.extract a s.size).data.toList=(e,0,[])):=hid (by rw [aS];exact h2);clear h2;have hne:((e:Int) == 0)=false:=by simp;omega
    go_wp2_with fail
    refine (kr (s.extract a s.size) e 0 [] wr (Dl bS HS6.out) HRV.out).mono ?_;rintro r w2 ⟨v,rfl,hv,hb2⟩;obtain ⟨av,cv,rfl,_⟩:=hv.is.form;have HUA:=hid ((HUS.out.below hb2).alloc (.cells #[.int .i64 (e:Int),.int .i64 (-1)] 28));have HGA:Hid (rowF (w2.alloc (.cells #[.int .i64 (e:Int),.int .i64 (-1)] 28)) w2.heap.size (e:Int) (-1)):=hid (Dg w2 _);clear hv hb2;go_wp2_with fail
    refine (aH (e:Int) (-1) _).mono ?_;rintro r w3 ⟨rfl,hb3⟩;rw [hne];have HU3:=hid (HUA.out.below hb3);have HG3:=hid (rowF.below HGA.out hb3 (by simp));clear hb3 s0 s1 sz sl p0;obtain ⟨s0,s1,sz,sl⟩:=HU3.out.2.1.cells;obtain ⟨g0,g1⟩:=HG3.out.at;go_wp2
    go_still_tail 6,(by kernel_rfl)
    change wpList _ _ _ _ _ w3.drew
    have HU4:=hid HU3.out.drew;generalize w3.drew=w4 at HU4 ⊢;go_wp2_with fail
    refine (bi e ((a:Int):Int) _).mono ?_;rintro r w' ⟨rfl,rfl⟩;exact cN e ((a:Int):Int) HU4.out.1 he HRES.out _ rfl rfl
   ·have hn2:=(fh h2).2.2.1;rw [Dj,HSL.out] at hn2;have HRV:Hid (aj (s.extract a s.size).data.toList=(0,m,h)):=hid (by rw [aS];exact h2);have HF:=hid h2;clear h2;go_wp2_with fail
    refine (kr (s.extract a s.size) 0 m h wr (Dl bS HS6.out) HRV.out).mono ?_;rintro r w2 ⟨v,rfl,hv,hb2⟩;obtain ⟨av,cv,rfl,_⟩:=hv.is.form;obtain ⟨nv,hnv⟩:∃ nv,nv=h.length:=⟨_,rfl⟩;rw [←hnv] at hv ⊢;have HUA:=hid ((HUS.out.below hb2).alloc (.cells #[.int .i64 ((0:Nat):Int),.int .i64 (-1)] 28));have HVA:=hid ((hv.alloc (.cells #[.int .i64 ((0:Nat):Int),.int .i64 (-1)] 28)).mono HUS.out.2.2.2.2);have HPA:Hid (PT w.heap.size R (w2.alloc (.cells #[.int .i64 ((0:Nat):Int),.int .i64 (-1)] 28))):=hid ((HPT.out.below hb2).below ((Below.refl _ _).alloc (Db _) _));clear hv hb2 hnv;go_wp2_with fail
    refine (aH 0 (-1) _).mono ?_;rintro r w3 ⟨rfl,hb3⟩;have HU3:=hid (HUA.out.below hb3);have HV3:=hid (HVA.out.below hb3);have HP3:=hid (HPA.out.below hb3);clear hb3 s0 s1 sz sl p0;obtain ⟨⟨c0,c1,c2⟩,_,⟨z0,z1,z2⟩,_⟩:=HU3.out.1.cells;have HU5:=hid (HU3.out.have HV3.out);have HP5:=hid (HP3.out.kept (bz w3 w.heap.size 1 (.slice av nv cv)) (by have:=HUS.out.2.2.2.1;simp;omega));clear HU3 HV3 HP3 HUA HVA HPA;obtain ⟨s0,s1,sz,sl⟩:=HU5.out.2.1.cells;obtain ⟨b,hb⟩:∃ b,b=a+m:=⟨_,rfl⟩;have hbs:b≤s.size:=by omega
    have kw:IntKind.i64.wrap (((a:Int):Int)+(m:Int))=(b:Int):=by rw [show ((a:Int):Int)+(m:Int)=(b:Int) by rw [hb];simp];exact Dh _ (by omega)
    have HBB:=hid hb;clear hb;go_wp2;have HU6:Hid (US w R s b _ _ _ _ _ _ _ _ _ _ _):=hid (HU5.out.go (b:=b));have HP6:=hid (HP5.out.kept (bz _ R 1 (.int .i64 (b:Int))) (by simp));go_roundw
    case rel=>exact ⟨2,b,f,h,vf,.slice av nv cv,by omega,by go_num,.inr (.inr ⟨rfl,a,m,H1.out,HF.out,HBB.out⟩),hbs,HU6.out,HP6.out⟩
    case measure=>simp [intOf]
  ·have HRF:=hid (fh h1).1;have HRH:=hid (fh h2).1;have H1:=hid h1;have H2:=hid h2;have HANM:=hid hanm;clear h1 h2 hanm hk HPT;rcases ar (s.data.toList.drop a) 60 with ⟨e,h3,he,_⟩ | ⟨k1,j1,h3,hk60,_,hj10,hj1l,_⟩
   ·have HRES:Hid (unbF s.data.toList=.inl (e,(a:Int))):=hid (by rw [HANM.out];exact nQ HL.out H1.out H2.out (by rw [←HANM.out];exact h3) he);have H3:=hid h3;clear h3;go_wp2_with fail
    refine (ck R s a e 60 wr HUS.out.2.1 HS6.out ha (by decide) (by decide) H3.out he).mono ?_;rintro r w2 ⟨rfl,hg2⟩;exact cN e (a:Int) (HUS.out.1.kept hg2 (fun k hk=>by injection hk with hk;have:=HUS.out.2.2.2.1;omega)) he HRES.out _ rfl rfl
   rw [Dj,HSL.out] at hj1l;obtain ⟨b,hb⟩:∃ b,a+j1=b:=⟨_,rfl⟩;have hbs:b≤s.size:=by omega
   have H3:=hid h3;have H3N:Hid (intL (s.data.toList.drop (n+m)) 60=(k1,j1,0)):=hid (by rw [←HANM.out];exact h3);have HB:Hid (n+m+j1=b):=hid (by rw [←HANM.out];exact hb);have HJ10:=hid hj10;have HBE:=hid hb;clear h3 hb hj1l hj10;go_wp2_with fail
   refine (bo R s a k1 j1 60 wr HUS.out.2.1 HS6.out ha (by decide) (by decide) H3.out HJ10.out).mono ?_;rintro r w2 ⟨rfl,hs2,hg2⟩;rw [HBE.out] at hs2;have HU2:=hid (HUS.out.next hs2 hg2);clear hs2 hg2 HUS ha;go_wp2
   go_loopw [10,11] (fun tv kv wr=>∃ (q c:Nat) (T:List ByteArray),kv=.int .i64 q∧c≤s.size∧T.length+q=k1∧(∀ x∈T,x.size≤2000)∧unT s.data.toList k1 b []=unT s.data.toList q c T∧US w R s c vf vh tv (.slice none 0 0) (.slice none 0 0) f h T [] [] wr) (fun _ kv _=>(intOf kv).toNat)
   case atStart=>exact ⟨k1,b,[],rfl,hbs,by simp,by simp,rfl,HU2.out⟩
   case round =>
    obtain ⟨q,c,T,rfl,hc,hTq,hts,hun,us⟩:=hrel;have HUT:=hid us;have HUN:=hid hun;have HTS:=hid hts;have HTQ:=hid hTq;obtain ⟨at_,ct,rfl,_,_⟩:=us.2.2.1.2.2.1.isTexts;obtain ⟨nt,hnt⟩:∃ nt,nt=T.length:=⟨_,rfl⟩;rw [←hnt] at HUT ⊢;have HNT:=hid hnt;clear us hun hts hTq hnt HU2;obtain ⟨s0,s1,sz,sl⟩:=HUT.out.2.1.cells;have d3:(0:Int)≤(c:Int):=by omega
    have d4:(c:Int)≤(s.size:Int):=by omega
    by_cases hq:0<q
    ·obtain ⟨q',hq'⟩:∃ q',q=q'+1:=⟨q-1,by omega⟩;have HQ:=hid hq';have hq60:q≤60:=by have:=HTQ.out;omega
     have hq0:(0:Int)<(q:Int):=by omega
     have hq1:IntKind.i64.wrap ((q:Int)-1)=(q':Int):=by rw [show (q:Int)-1=(q':Int) by omega];exact Dh _ (by omega)
     have hq2:IntKind.i64.wrap (q':Int)=(q':Int):=Dh _ (by omega);have HQB:Hid (q'<q∧q≤60):=hid (by have:=HTQ.out;omega);obtain ⟨t,n2,e,hg⟩:∃ t n e,getS (s.data.toList.drop c)=(t,n,e):=⟨_,_,_,rfl⟩;by_cases he:e=0
     ·subst he;obtain ⟨y1,y2,y3,y4⟩:=fl hg;rw [Dj,HSL.out] at y2;obtain ⟨X,hX⟩:∃ X:ByteArray,X=⟨t.toArray⟩:=⟨_,rfl⟩;have HXS:Hid (X.size≤2000):=hid (by rw [hX,bm];exact y3);obtain ⟨c2,hc2⟩:∃ c2,c2=c+n2:=⟨_,rfl⟩;have hc2s:c2≤s.size:=by omega
      have kw:IntKind.i64.wrap ((c:Int)+(n2:Int))=(c2:Int):=by rw [show (c:Int)+(n2:Int)=(c2:Int) by rw [hc2];simp];exact Dh _ (by omega)
      have HUN2:Hid (unT s.data.toList k1 b []=unT s.data.toList q' c2 (T++[X])):=hid (by rw [HUN.out,HQ.out,iQ hg,hX,hc2]);have HG:=hid hg;have HX:=hid hX;have HTL:Hid (T.length+1≤8796093022208):=hid (by have:=HTQ.out;omega);clear hg hX hc2 y1 y2 y3 y4;have HUA:=hid (HUT.out.alloc (.cells #[.string X] 9));obtain ⟨_,s1A,szA,slA⟩:=HUA.out.2.1.cells;go_wp2_with fail
      refine (ri (s.extract c s.size) X n2 wr (Dl bS (by have:=HS6.out;omega)) (aS s c) HG.out HX.out).mono ?_;rintro r w' ⟨rfl,rfl⟩;go_wp2;refine E6 ?_
      go_region_law (first | (refine AU _ rfl _ _ rfl (R+2) _ T rfl (HUT.out.2.2.1.2.2.1.alloc _) ⟨wr.heap.size,0,none⟩ 1 rfl X (by simp [Addr.add]) HTL.out (by have:=HUT.out.2.2.2.2;simp;omega) ?_;intro g cap w3 ho3 hg3;have HU3:=hid (HUT.out.texts ho3 (wn hg3));obtain ⟨_,s1B,szB,slB⟩:=HU3.out.2.1.cells;clear ho3 hg3))
      all_goals
       refine DT ?_;have HU4:=hid (HU3.out.go (b:=c2));go_wp2;go_roundw
       case rel=>exact ⟨q',c2,T++[X],by go_num,hc2s,by rw [Df];have:=HTQ.out;have:=HQ.out;simp;omega,(fun x hx=>by rcases Ef.1 hx with hx | hx;exact HTS.out x hx;rw [Ek.1 hx];exact HXS.out),HUN2.out,HU4.out⟩
       case measure=>have:=HQB.out;simp [intOf];omega
     ·have HRES:Hid (unbF s.data.toList=.inl (e,(c:Int))):=hid (nP HL.out H1.out H2.out H3N.out (by rw [HB.out,HUN.out,HQ.out,iP hg he]));have HG:=hid hg;have hne:((e:Int) != 0)=true:=by simp;omega
      clear hg;go_wp2_with fail
      refine (rg (s.extract c s.size) n2 e wr (Dl bS (by have:=HS6.out;omega)) (aS s c) HG.out).mono ?_;rintro r w' ⟨⟨X,rfl⟩,rfl⟩;go_wp2_with fail
      refine (bi e (c:Int) _).mono ?_;rintro r w' ⟨rfl,rfl⟩;exact cN e (c:Int) HUT.out.1 he HRES.out _ rfl rfl
    ·obtain rfl:q=0:=by omega
     have HUT4:Hid (unT s.data.toList k1 (n+m+j1) []=.inr (c,T)):=hid (by rw [HB.out,HUN.out];rfl);have hnt60:nt≤60:=by have:=HTQ.out;have:=HNT.out;omega
     clear HUN hq;rcases ar (s.data.toList.drop c) 60 with ⟨e,h5,he,_⟩ | ⟨k2,j2,h5,hk2,_,hj10,hj2l,_⟩
     ·have HRES:Hid (unbF s.data.toList=.inl (e,(c:Int))):=hid (nS HL.out H1.out H2.out H3N.out HUT4.out h5 he);have H5:=hid h5;clear h5;go_wp2_with fail
      refine (ck R s c e 60 wr HUT.out.2.1 HS6.out hc (by decide) (by decide) H5.out he).mono ?_;rintro r w2 ⟨rfl,hg2⟩;exact cN e (c:Int) (HUT.out.1.kept hg2 (fun k hk=>by injection hk with hk;have:=HUT.out.2.2.2.1;omega)) he HRES.out _ rfl rfl
     rw [Dj,HSL.out] at hj2l;obtain ⟨b2,hb2⟩:∃ b2,c+j2=b2:=⟨_,rfl⟩;have hb2s:b2≤s.size:=by omega
     have H5:=hid h5;have HJ2:=hid hj10;have HB2E:=hid hb2;clear h5 hb2 hj2l hj10 s0 s1 sz sl d3 d4;go_wp2_with fail
     refine (bo R s c k2 j2 60 wr HUT.out.2.1 HS6.out hc (by decide) (by decide) H5.out HJ2.out).mono ?_;rintro r w2 ⟨rfl,hs2,hg2⟩;rw [HB2E.out] at hs2;have hu5:=HUT.out.next hs2 hg2;obtain ⟨af,cf,rfl,_⟩:=hu5.2.2.1.1.is.form;obtain ⟨ah,ch,rfl,_⟩:=hu5.2.2.1.2.1.is.form;obtain ⟨nf,hnf⟩:∃ nf,nf=f.length:=⟨_,rfl⟩;obtain ⟨nh,hnh⟩:∃ nh,nh=h.length:=⟨_,rfl⟩;rw [←hnf,←hnh] at hu5;have hnh16:nh≤16:=by rw [hnh];exact HRH.out.1
     have HNF:=hid hnf;have HNH:=hid hnh;have HU5:=hid hu5;clear hs2 hg2 HUT hc hu5 hnf hnh;go_wp2
     go_loopw [15,16,17] (fun nv tv kv wr=>∃ (q c:Nat) (A:Int) (W:List Wr) (N:List Nat) (vw:Value),kv=.int .i64 q∧tv=.int .i64 A∧(0≤A∧A≤1099511627776)∧c≤s.size∧(W.length+q=k2∧N.length=W.length)∧unW s.data.toList h T k2 b2 0 [] []=unW s.data.toList h T q c A W N∧US w R s c (.slice af nf cf) (.slice ah nh ch) (.slice at_ nt ct) nv vw f h T N W wr) (fun _ _ kv _=>(intOf kv).toNat)
     case atStart=>exact ⟨k2,b2,0,[],[],.slice none 0 0,rfl,rfl,⟨Int.le_refl _,by decide⟩,hb2s,⟨by simp,rfl⟩,rfl,HU5.out⟩
     case round =>
      obtain ⟨q,c3,A,W,N,vw,rfl,rfl,⟨hA0,hA1⟩,hc3,⟨hWq,hNl⟩,huw,us⟩:=hrel;obtain ⟨an,cn,rfl,_,_⟩:=us.2.2.1.2.2.2.1.isNums;obtain ⟨aw,cw,rfl,_⟩:=us.2.2.1.2.2.2.2.is.form;obtain ⟨nw,hnw⟩:∃ nw,nw=W.length:=⟨_,rfl⟩;rw [E9,hNl,←hnw] at us ⊢;have HUS:=hid us;have HUW:=hid huw;have HNW:=hid hnw;have HNL:Hid (N.length=nw):=hid (by rw [hNl,hnw]);have HWQ:Hid (nw+q=k2∧k2≤60):=hid ⟨by rw [hnw];exact hWq,by omega⟩;clear us huw hnw hNl hWq HU5;obtain ⟨s0,s1,sz,sl⟩:=HUS.out.2.1.cells;by_cases hq:0<q
      ·obtain ⟨q',hq'⟩:∃ q',q=q'+1:=⟨q-1,by omega⟩;have HQ:=hid hq';have hq60:q≤60:=by have:=HWQ.out;omega
       have hq0:(0:Int)<(q:Int):=by omega
       have hq1:IntKind.i64.wrap ((q:Int)-1)=(q':Int):=by rw [show (q:Int)-1=(q':Int) by omega];exact Dh _ (by omega)
       have hq2:IntKind.i64.wrap (q':Int)=(q':Int):=Dh _ (by omega);have HQB:Hid (q'<q∧q≤60):=hid (by omega);have HWR:Hid (∀ {x p:Nat},b8 s.data.toList h T c3 A=.inl (x,p)→unbF s.data.toList=.inl (x,(p:Int))):=hid (fun hx=>nR HL.out H1.out H2.out H3N.out HUT4.out H5.out (by rw [HB2E.out,HUW.out,HQ.out,nI hx]));clear hq';by_cases hend:c3=s.size
       ·have HRES:Hid (unbF s.data.toList=.inl (7,(s.size:Int))):=hid (by rw [←hend];exact HWR.out (kN (e:=7) (K:=0) (j:=0) (by rw [El (by rw [HSL.out];omega)];rfl) (by decide)));have hbe:((c3:Int) == (s.size:Int))=true:=by simp;omega
        go_wp2_with fail
        refine (bi 7 (s.size:Int) _).mono ?_;rintro r w' ⟨rfl,rfl⟩;exact cN 7 (s.size:Int) HUS.out.1 (by decide) HRES.out _ rfl rfl
       have hlt:c3<s.size:=by omega
       have hbe:((c3:Int) == (s.size:Int))=false:=by simp;omega
       have hlt2:(c3:Int)<(s.size:Int):=by omega
       have hge0:(0:Int)≤(c3:Int):=by omega
       obtain ⟨x,hx⟩:∃ x,s[c3]=x:=⟨_,rfl⟩;have hdrop:s.data.toList.drop c3=x::s.data.toList.drop (c3+1):=by
        have h2:c3<s.data.toList.length:=by rw [HSL.out];exact hlt
        have h3:=DA h2;have h4 : s.data.toList[c3]'h2 = x := hx;rw [h4] at h3;exact h3
       obtain ⟨K,hK⟩:∃ K:Int,(x.toNat:Int)=K:=⟨_,rfl⟩;have hK0:0≤K:=by omega
       have hK1:K≤255:=by have:=x.toNat_lt;omega
       have hkw:IntKind.i64.wrap K=K:=Dh _ (by omega);have HDR:=hid hdrop;have HKK:=hid hK;clear hdrop;obtain ⟨X,hX⟩:∃ X,wr.heap.size=X:=⟨_,rfl⟩;have HUA:=hid (HUS.out.alloc (.cells #[.int .i64 0,.int .i64 0,.int .i64 K,.string ⟨#[]⟩,.string ⟨#[]⟩,.int .i64 0] 78));have HXA:Hid ((wr.alloc (.cells #[.int .i64 0,.int .i64 0,.int .i64 K,.string ⟨#[]⟩,.string ⟨#[]⟩,.int .i64 0] 78)).heap[X]? = some (.cells #[.int .i64 0,.int .i64 0,.int .i64 K,.string ⟨#[]⟩,.string ⟨#[]⟩,.int .i64 0] 78 (0,0))):=hid (by rw [←hX];exact Dg wr _);have HXR:Hid (R+2≤X):=hid (by rw [←hX];exact HUS.out.2.2.2.2);have HVX:Hid ((Value.slice aw nw cw).ownBlock≠some X):=hid (fun e=>by have:=(DQ HUS.out.2.2.1.2.2.2.2 X e).2;omega);by_cases hkb:x.toNat<1∨4<x.toNat
       ·have HRES:=hid (HWR.out (kN (e:=1) (K:=0) (j:=0) (by rw [HDR.out];exact if_pos hkb) (by decide)));have HW1:Hid (∀ w:World,Calls Tryz.prog 27 #[.int .i64 K,.int .i64 1,.int .i64 4] w fun e w'=>e=.returned (.bool false)∧w=w'):=hid (fun w=>by
         by_cases h1:K<1
         ·exact bV K 1 4 w h1
         ·exact bU K 1 4 w (by omega) (by omega))
        rw [hX] at *;go_wp2_with fail
        refine (HW1.out _).mono ?_;rintro r w' ⟨rfl,rfl⟩;obtain ⟨y0,y1,yz,yl⟩:=HUA.out.2.1.cells;go_wp2_with fail
        refine (bi 1 (c3:Int) _).mono ?_;rintro r w' ⟨rfl,rfl⟩;exact cN 1 (c3:Int) HUA.out.1 (by decide) HRES.out _ rfl rfl
       have hkg1:1≤K:=by omega
       have hkg2:K≤4:=by omega
       have HKF:Hid (aq (s.data.toList.drop c3)=(x.toNat,1,0)):=hid (by rw [HDR.out];exact if_neg hkb);obtain ⟨c4,hc4e⟩:∃ c4,c4=c3+1:=⟨_,rfl⟩;have hc4:c4≤s.size:=by omega
       have HC4:=hid hc4e;have kw4:IntKind.i64.wrap ((c3:Int)+1)=(c4:Int):=by rw [show (c3:Int)+1=(c4:Int) by omega];exact Dh _ (by omega)
       clear hc4e hkb;obtain ⟨t,k1t,e,ht⟩:∃ t k e,intL (s.data.toList.drop c4) (1099511627776-A)=(t,k,e):=⟨_,_,_,rfl⟩;have HT0:Hid (intL (s.data.toList.drop (c3+1)) (1099511627776-A)=(t,k1t,e)):=hid (by rw [←HC4.out];exact ht);have HTC:=hid (wJ hA0 hA1 ht);clear ht;go_wp2_with fail
       refine (aQ K 1 4 _ hkg1 hkg2).mono ?_;rintro r w' ⟨rfl,rfl⟩;generalize wr.alloc (.cells #[.int .i64 0,.int .i64 0,.int .i64 K,.string ⟨#[]⟩,.string ⟨#[]⟩,.int .i64 0] 78)=w5 at HUA HXA ⊢;clear hX s0 s1 sz sl hx;obtain ⟨s0,s1,sz,sl⟩:=HUA.out.2.1.cells;have HU6:=hid (HUA.out.go (b:=c4));have HX6:=hid (bM (R:=R) (o:=1) HXA.out (by have:=HXR.out;omega) (.int .i64 (c4:Int)));rcases HTC.out with ⟨rfl,hi,hle⟩ | ⟨hne,t',k',hi⟩ | ⟨rfl,t',k',hi,hgt⟩
       rotate_left
       ·have HI:=hid (wK hi hne);have HRES:Hid (unbF s.data.toList=.inl (e,(c4:Int))):=hid (by rw [HC4.out];exact HWR.out (kO HKF.out HT0.out hne));clear hi HTC;go_wp2_with fail
        refine (ck R s c4 e 1099511627776 _ HU6.out.2.1 HS6.out hc4 (by decide) (by decide) HI.out hne).mono ?_;rintro r w7 ⟨rfl,hg7⟩;exact cN e (c4:Int) (HU6.out.1.kept hg7 (fun k hk=>by injection hk with hk;have:=HU6.out.2.2.2.1;omega)) hne HRES.out _ rfl rfl
       ·obtain ⟨ht1,hkl,hk10⟩:=jK hi;have HI:=hid hi;have HK10:=hid hk10;have HRES:Hid (unbF s.data.toList=.inl (2,(c4:Int))):=hid (by rw [HC4.out];exact HWR.out (kO HKF.out HT0.out (by decide)));obtain ⟨AT,hAT⟩:∃ AT:Int,A+(t':Int)=AT:=⟨_,rfl⟩;have hgt2:1099511627776<AT:=by omega
        have kwA:IntKind.i64.wrap AT=AT:=Dh _ (by omega);clear hi hgt hkl hk10 HTC;go_wp2_with fail
        refine (bo R s c4 t' k' 1099511627776 _ HU6.out.2.1 HS6.out hc4 (by decide) (by decide) HI.out HK10.out).mono ?_;rintro r w7 ⟨rfl,hs7,hg7⟩;have HU7:=hid (HU6.out.next hs7 hg7);clear hs7 hg7;go_wp2_with fail
        refine (bi 2 (c4:Int) _).mono ?_;rintro r w' ⟨rfl,rfl⟩;exact cN 2 (c4:Int) HU7.out.1 (by decide) HRES.out _ rfl rfl
       obtain ⟨ht1,hkl,hk10⟩:=jK hi;rw [Dj,HSL.out] at hkl;obtain ⟨A2,hA2⟩:∃ A2:Int,A+(t:Int)=A2:=⟨_,rfl⟩;have hA20:0≤A2:=by omega
       have hA21:A2≤1099511627776:=by omega
       have kwA:IntKind.i64.wrap A2=A2:=Dh _ (by omega);obtain ⟨c5,hc5e⟩:∃ c5,c4+k1t=c5:=⟨_,rfl⟩;have hc5:c5≤s.size:=by omega
       have HI:=hid hi;have HK10:=hid hk10;have HC5:=hid hc5e;have HA2:=hid hA2;clear hi hle hkl hk10 hc5e HTC;go_wp2_with fail
       refine (bo R s c4 t k1t 1099511627776 _ HU6.out.2.1 HS6.out hc4 (by decide) (by decide) HI.out HK10.out).mono ?_;rintro r w9 ⟨rfl,hs9,hg9⟩;rw [HC5.out] at hs9;have HU9:=hid (HU6.out.next hs9 hg9);have HX9:=hid ((hg9.block X (DF.1 HX6.out).1 (by have:=HXR.out;simp;omega)).trans HX6.out);clear hs9 hg9 s0 s1 sz sl HU6 HX6 HUA HXA hge0 hlt2 hlt hend hbe;have HU9d:=hid HU9.out.drew;have HX9d:Hid (w9.drew.heap[X]? = some (.cells #[.int .i64 0,.int .i64 0,.int .i64 K,.string ⟨#[]⟩,.string ⟨#[]⟩,.int .i64 0] 78 (0,0))):=hid HX9.out;obtain ⟨⟨_,b1,_⟩,_⟩:=HU9.out.1.cells;have kwh:IntKind.i64.wrap ((nh:Int)-1)=(nh:Int)-1:=Dh _ (by omega);have kwt:IntKind.i64.wrap ((nt:Int)-1)=(nt:Int)-1:=Dh _ (by omega);rcases ar (s.data.toList.drop c5) ((nh:Int)-1) with ⟨e,h6,he,_⟩ | ⟨p,k2r,h6,hp,_,hk2r,hk2l,_⟩
       ·have H6:=hid h6;have HRES:Hid (unbF s.data.toList=.inl (e,(c5:Int))):=hid (by
         have h:=HWR.out (nF HKF.out HT0.out (p:=0) (k2:=0) (e:=e) (by rw [show c3+1+k1t=c5 by have:=HC4.out;have:=HC5.out;omega,←HNH.out];exact h6) he);rw [h,show c3+1+k1t=c5 by have:=HC4.out;have:=HC5.out;omega])
        clear h6;go_wp2;refine oe (i:=2) (j:=3) (u:=.pointer (some ⟨w.heap.size,0,none⟩)) (v:=.pointer (some ⟨w.heap.size+1,0,none⟩)) ?_;refine Ea (S:=(fun w'=>w'.cell? ⟨w.heap.size,1,none⟩=some (.slice ah nh ch))) (by kernel_rfl) b1 (fun hHeld=>?_);generalize w9.drew=W9 at HU9d hHeld ⊢;refine tkO 0 ?_ (hQ:=by exact aX.put (by decide) (by decide));refine tkO 1 ?_ (hQ:=by exact aX.put (by decide) (by decide));refine tkO 2 ?_ (hQ:=by exact aX.put (by decide) (by decide));refine tkO 3 ?_ (hQ:=by exact aX.put (by decide) (by decide));refine tkO 4 ?_ (hQ:=by exact aX.put (by decide) (by decide));refine tkO 5 ?_ (hQ:=by exact aX.put (by decide) (by decide));refine tkO 6 ?_ (hQ:=by exact aX.put (by decide) (by decide));refine tkO 7 ?_ (hQ:=by exact aX.put (by decide) (by decide));refine Dm (rs:=[8]) (by kernel_rfl) (by simp) ?_;refine Dk rfl (fun KK hKK=>?_) Dn
        go_simp
        refine (qf R s c5 e (((nh:Nat):Int)-1) W9 HU9d.out.2.1 HS6.out hc5 (by omega) (by omega) H6.out he).mono ?_;rintro r w10 ⟨rfl,hg10⟩;have HU10:=hid (HU9d.out.1.kept hg10 (fun k hk=>by injection hk with hk;have:=HU9d.out.2.2.2.1;omega));refine ⟨⟨rfl,rfl⟩,fun a' e1 e2 e3=>?_⟩;obtain ⟨tm,df⟩:=a';dsimp only at e1 e2 e3
        subst e3;exact cN e (c5:Int) HU10.out he HRES.out tm e1 e2
       rw [Dj,HSL.out] at hk2l;obtain ⟨c6,hc6e⟩:∃ c6,c5+k2r=c6:=⟨_,rfl⟩;have hc6:c6≤s.size:=by omega
       have hpn:(p:Int)<(nh:Int):=by omega
       obtain ⟨ent, hent⟩ : ∃ ent, h[p]? = some ent := ⟨h[p]'(by have := HNH.out; omega), Di _⟩;obtain ⟨a9,cc9,e9,f9⟩:=HU9.out.2.2.1.2.1.is.form;obtain ⟨bh,oh,e9b,_,_,_⟩:=f9 p ent hent;injection e9 with e91 e92 e93
       rw [e9b] at e91;subst e91;obtain ⟨rep,tm⟩:=ent;have H6:=hid h6;have HK2:=hid hk2r;have HC6:=hid hc6e;have HENT:=hid hent;have HSF:Hid (∀ {c':Nat} (W':World),US w R s c' (.slice af nf cf) (.slice (some ⟨bh,oh,none⟩) nh ch) (.slice at_ nt ct) (.slice an nw cn) (.slice aw nw cw) f h T N W W'→(W'.cell? ⟨w.heap.size,1,none⟩=some (.slice (some ⟨bh,oh,none⟩) nh ch)∧W'.cell? ⟨bh,oh+p * 2,none⟩=some (.int .i64 rep))):=hid (fun W' u=>⟨u.1.cells.1.2.1,vB u.2.2.1.2.1.is HENT.out⟩);have HP1:Hid (intL (s.data.toList.drop (c3+1+k1t)) ((h.length:Int)-1)=(p,k2r,0)):=hid (by rw [show c3+1+k1t=c5 by have:=HC4.out;have:=HC5.out;omega,←HNH.out];exact h6);clear h6 hk2r hk2l hc6e hent f9 e92 e93 e9b b1;go_wp2;refine E6 ?_;refine Ea (S:=(fun w'=>w'.cell? ⟨w.heap.size,1,none⟩=some (.slice (some ⟨bh,oh,none⟩) nh ch)∧w'.cell? ⟨bh,oh+p * 2,none⟩=some (.int .i64 rep))) (by kernel_rfl) (HSF.out _ HU9d.out) (fun hHeld=>?_);generalize w9.drew=W9 at HU9d HX9d hHeld ⊢;refine tkO 0 ?_;refine tkO 1 ?_;refine tkO 2 ?_;refine tkO 3 ?_;refine tkO 4 ?_;refine tkO 5 ?_;refine tkO 6 ?_;refine tkO 7 ?_;refine Dm (rs:=[8]) (by kernel_rfl) (by simp) ?_
       refine Dk rfl (fun KK hKK=>?_) Dn
       go_simp
       refine (qg R s c5 p k2r (((nh:Nat):Int)-1) W9 HU9d.out.2.1 HS6.out hc5 (by omega) (by omega) H6.out HK2.out).mono ?_;rintro r w10 ⟨rfl,hs10,hg10⟩;rw [HC6.out] at hs10;have HU10:=hid (HU9d.out.next hs10 hg10);have HX10:Hid (w10.heap[X]? = some (.cells #[.int .i64 0,.int .i64 0,.int .i64 K,.string ⟨#[]⟩,.string ⟨#[]⟩,.int .i64 0] 78 (0,0))):=hid ((hg10.block X (DF.1 HX9d.out).1 (by have:=HXR.out;simp;omega)).trans HX9d.out);clear hs10 hg10;refine hKK.out _ _ (HSF.out _ HU10.out) (fun hHeld2=>sp ?_);clear hKK hHeld
       refine tkO 9 ?_;refine tkO 10 ?_;refine tkO 11 ?_;refine tkO 12 ?_;refine tkO 13 ?_;obtain ⟨x0,x1,_,_,_,_⟩:=aI HX10.out;obtain ⟨v0,v1,_,_,_,_⟩:=cd HX10.out;have HU11:=hid ((HU10.out.store (o:=0) (x:=.int .i64 A2) HX10.out HXR.out HVX.out).store (o:=1) (x:=.int .i64 rep) (De _ X 0 _ _ _ HX10.out) HXR.out HVX.out);have HX11:Hid (((w10.setCell ⟨X,0,none⟩ (.int .i64 A2)).setCell ⟨X,1,none⟩ (.int .i64 rep)).heap[X]? = some (.cells #[.int .i64 A2,.int .i64 rep,.int .i64 K,.string ⟨#[]⟩,.string ⟨#[]⟩,.int .i64 0] 78 (0,0))):=hid (De _ X 1 _ _ _ (De _ X 0 _ _ _ HX10.out));refine Dm (rs:=[14]) (by kernel_rfl) (by simp) ?_;refine Dk rfl (fun KK hKK=>?_) Dn
       go_simp
       refine hKK.out _ _ (HSF.out _ HU11.out) (fun hHeld3=>sp ?_);clear hKK hHeld2 x0 x1 v0 v1
       refine DZ (by kernel_rfl) ?_ _;refine DT ?_;clear hHeld3;generalize (w10.setCell ⟨X,0,none⟩ (.int .i64 A2)).setCell ⟨X,1,none⟩ (.int .i64 rep)=w11 at HU11 HX11 ⊢;clear HU10 HX10 HU9d HX9d;rcases ar (s.data.toList.drop c6) ((nt:Int)-1) with ⟨e,h7,he,_⟩ | ⟨nn,k3n,h7,hnn,_,hk3n,hk3l,_⟩
       ·have H7:=hid h7;have HRES:Hid (unbF s.data.toList=.inl (e,(c6:Int))):=hid (by
         have h:=HWR.out (nD HKF.out HT0.out HP1.out (n:=0) (k3:=0) (e:=e) (by rw [show c3+1+k1t+k2r=c6 by have:=HC4.out;have:=HC5.out;have:=HC6.out;omega,←HNT.out];exact h7) he);rw [h,show c3+1+k1t+k2r=c6 by have:=HC4.out;have:=HC5.out;have:=HC6.out;omega])
        clear h7;go_wp2_with fail
        refine (qf R s c6 e ((nt:Int)-1) w11 HU11.out.2.1 HS6.out hc6 (by omega) (by omega) H7.out he).mono ?_;rintro r w12 ⟨rfl,hg12⟩;exact cN e (c6:Int) (HU11.out.1.kept hg12 (fun k hk=>by injection hk with hk;have:=HU11.out.2.2.2.1;omega)) he HRES.out _ rfl rfl
       rw [Dj,HSL.out] at hk3l;obtain ⟨c7,hc7e⟩:∃ c7,c6+k3n=c7:=⟨_,rfl⟩;have hc7:c7≤s.size:=by omega
       have hnnt:(nn:Int)<(nt:Int):=by omega
       obtain ⟨key, hkey⟩ : ∃ key, T[nn]? = some key := ⟨T[nn]'(by have := HNT.out; omega), Di _⟩;obtain ⟨a9,cc9,e9,_,f9⟩:=HU11.out.2.2.1.2.2.1.isTexts;obtain ⟨bt,ot,e9b,_,_⟩:=f9 nn key hkey;injection e9 with e91 e92 e93
       rw [e9b] at e91;subst e91;have H7:=hid h7;have HK3:=hid hk3n;have HC7:=hid hc7e;have HKEY:=hid hkey;have HKS:Hid (key.size≤140737488351232):=hid (Dl (HTS.out key (DB hkey)) (by decide));have HN1:Hid (intL (s.data.toList.drop (c3+1+k1t+k2r)) ((T.length:Int)-1)=(nn,k3n,0)):=hid (by rw [show c3+1+k1t+k2r=c6 by have:=HC4.out;have:=HC5.out;have:=HC6.out;omega,←HNT.out];exact h7);have HST:Hid (∀ (vn':Value) (N':List Nat) (c':Nat) (W':World),US w R s c' (.slice af nf cf) (.slice (some ⟨bh,oh,none⟩) nh ch) (.slice (some ⟨bt,ot,none⟩) nt ct) vn' (.slice aw nw cw) f h T N' W W'→W'.cell? ⟨bt,ot+nn,none⟩=some (.string key)):=hid (fun _ _ _ W' u=>Bu u.2.2.1.2.2.1.isTexts HKEY.out);clear h7 hk3n hk3l hc7e hkey f9 e92 e93 e9b;go_wp2_with fail
       refine (qg R s c6 nn k3n ((nt:Int)-1) w11 HU11.out.2.1 HS6.out hc6 (by omega) (by omega) H7.out HK3.out).mono ?_;rintro r w13 ⟨rfl,hs13,hg13⟩;rw [HC7.out] at hs13;have HU13:=hid (HU11.out.next hs13 hg13);have HX13:=hid ((hg13.block X (DF.1 HX11.out).1 (by have:=HXR.out;simp;omega)).trans HX11.out);clear hs13 hg13 HU11 HX11;have HU13d:=hid HU13.out.drew;have HX13d:Hid (w13.drew.heap[X]? = some (.cells #[.int .i64 A2,.int .i64 rep,.int .i64 K,.string ⟨#[]⟩,.string ⟨#[]⟩,.int .i64 0] 78 (0,0))):=hid HX13.out;have HNS:Hid (N.length+1≤8796093022208):=hid (by have:=HNL.out;have:=HWQ.out;omega);have HNN1:Hid (N.length+1=nw+1):=hid (by rw [HNL.out]);go_wp2;refine E6 ?_;refine Ea (S:=(fun w'=>w'.cell? ⟨bt,ot+nn,none⟩=some (.string key))) (by kernel_rfl) (HST.out _ _ _ _ HU13d.out) (fun hHeld=>?_);generalize w13.drew=W13 at HU13d HX13d hHeld ⊢;refine tkO 0 ?_;refine tkO 1 ?_;refine tkO 4 ?_;refine tkO 5 ?_;refine tkO 6 ?_;refine tkO 7 ?_;refine Dm (rs:=[2]) (by kernel_rfl) (by simp) ?_;refine Dk rfl (fun KK hKK=>?_) Dn
       go_simp
       refine hKK.out _ _ (HST.out _ _ _ _ (HU13d.out.alloc _)) (fun hHeld2=>sp ?_);clear hKK hHeld
       have HUB:=hid (HU13d.out.alloc (.cells #[.int .i64 (nn:Int)] 3));have HXB:Hid ((W13.alloc (.cells #[.int .i64 (nn:Int)] 3)).heap[X]? = _):=hid ((Below.heap_alloc _ _ _ (DF.1 HX13d.out).1).trans HX13d.out);have HLB:Hid ((W13.alloc (.cells #[.int .i64 (nn:Int)] 3)).cell? ⟨W13.heap.size,0,none⟩=some (.int .i64 (nn:Int))):=hid (oZ rfl);generalize W13.alloc (.cells #[.int .i64 (nn:Int)] 3)=WB at HUB HXB HLB hHeld2 ⊢;generalize W13.heap.size=bl at HLB ⊢;refine Dm (rs:=[3]) (by kernel_rfl) (by simp) ?_;refine Dk rfl (fun KK hKK=>?_) Dn;refine AS WB rfl _ _ rfl (R+2) _ N rfl HUB.out.2.2.1.2.2.2.1 ⟨bl,0,none⟩ 1 rfl nn (by simpa [Addr.add] using HLB.out) HNS.out HUB.out.2.2.2.2 ?_;intro g cap w14 ho14 hg14;rw [HNN1.out] at ho14;rw [HNN1.out];have HU14:=hid (HUB.out.numbers ho14 hg14);have HX14:Hid (w14.heap[X]? = _):=hid ((hg14.block X (DF.1 HXB.out).1 (fun e=>ix HUB.out.2.2.1.2.2.2.1 HXB.out (by decide) e.symm)).trans HXB.out);clear ho14 hg14;refine hKK.out _ _ (HST.out _ _ _ _ HU14.out) (fun hHeld3=>sp ?_);clear hKK hHeld2
       refine tkO 8 ?_;refine tkO 9 ?_;obtain ⟨_,_,_,x3,_,_⟩:=aI HX14.out;obtain ⟨_,_,_,v3,_,_⟩:=cd HX14.out;have HU15:=hid (HU14.out.store (o:=3) (x:=.string key) HX14.out HXR.out HVX.out);have HX15:Hid ((w14.setCell ⟨X,3,none⟩ (.string key)).heap[X]? = some (.cells #[.int .i64 A2,.int .i64 rep,.int .i64 K,.string key,.string ⟨#[]⟩,.int .i64 0] 78 (0,0))):=hid (De _ X 3 _ _ _ HX14.out);refine Dm (rs:=[10]) (by kernel_rfl) (by simp) ?_;refine Dk rfl (fun KK hKK=>?_) Dn
       go_simp
       refine hKK.out _ _ (HST.out _ _ _ _ HU15.out) (fun hHeld4=>sp ?_);clear hKK hHeld3 x3 v3
       refine DZ (by kernel_rfl) ?_ _;refine DT ?_;clear hHeld4;generalize w14.setCell ⟨X,3,none⟩ (.string key)=w15 at HU15 HX15 ⊢;clear HU14 HX14 HUB HXB HLB HU13d HX13d;obtain ⟨e,hF⟩:∃ e,aB A2 rep K key (s.data.toList.drop c7)=e:=⟨_,rfl⟩;have HPOS:Hid (c3+1+k1t+k2r+k3n=c7):=hid (by have:=HC4.out;have:=HC5.out;have:=HC6.out;have:=HC7.out;omega);have HFU:Hid (aB (A+(t:Int)) (h.getD p ⟨0,0⟩).rep (x.toNat:Int) (T.getD nn ⟨#[]⟩) (s.data.toList.drop (c3+1+k1t+k2r+k3n))=e):=hid (by rw [HA2.out,HKK.out,HPOS.out,DN,HENT.out,DN,HKEY.out];exact hF);have HF0:Hid (aB A2 rep K key (s.extract c7 s.size).data.toList=e):=hid (by rw [aS];exact hF);have HSX:Hid ((s.extract c7 s.size).size≤140737488351232):=hid (Dl bS (by have:=HS6.out;omega));have d7:(0:Int)≤(c7:Int):=by omega
       have d8:(c7:Int)≤(s.size:Int):=by omega
       have HU15d:=hid HU15.out.drew;have HX15d:Hid (w15.drew.heap[X]? = some (.cells #[.int .i64 A2,.int .i64 rep,.int .i64 K,.string key,.string ⟨#[]⟩,.int .i64 0] 78 (0,0))):=hid HX15.out;by_cases he:e=0
       rotate_left
       ·have HRES : Hid (unbF s.data.toList = .inl (e, (c7 : Int))) := hid (by
         have h:=HWR.out (nC HKF.out HT0.out HP1.out HN1.out HFU.out he);rw [h,HPOS.out])
        have hne:((e:Int) != 0)=true:=by simp;omega
        clear hF;go_wp2;refine E6 ?_;refine Ea (S:=(fun w'=>w'.cell? ⟨R,1,none⟩=some (.int .i64 (c7:Int)))) (by kernel_rfl) HU15d.out.2.1.cells.2.1 (fun hHeld=>?_);generalize w15.drew=W15 at HU15d HX15d hHeld ⊢;refine tkO 1 ?_;refine tkO 2 ?_;refine tkO 3 ?_;refine tkO 4 ?_;refine tkO 5 ?_;refine tkO 6 ?_;obtain ⟨x0,x1,x2,x3,x4,x5⟩:=aI HX15d.out;refine Dm (rs:=[0]) (by kernel_rfl) (by simp) ?_;refine Dk rfl (fun KK hKK=>?_) Dn
        go_simp
        refine hKK.out _ _ HU15d.out.2.1.cells.2.1 (fun hHeld2=>sp ?_);clear hKK hHeld x0 x1 x2 x3 x4 x5
        refine Dm (rs:=[7]) (by kernel_rfl) (by simp) ?_;refine Dk rfl (fun KK hKK=>?_) Dn
        go_simp
        refine (qU A2 rep K key (s.extract c7 s.size) e W15 HKS.out HSX.out HF0.out he).mono ?_;rintro r w16 ⟨rfl,hb16⟩;have HU16:=hid (HU15d.out.below hb16);have HX16:=hid ((hb16.block X (DF.1 HX15d.out).1).trans HX15d.out);clear hb16;refine hKK.out _ _ HU16.out.2.1.cells.2.1 (fun hHeld3=>sp ?_);clear hKK hHeld2
        refine tkO 8 ?_;refine tkO 9 ?_;refine tkO 10 ?_;refine tkO 11 ?_;obtain ⟨x0,x1,x2,x3,x4,x5⟩:=aI HX16.out;obtain ⟨v0,v1,v2,v3,v4,v5⟩:=cd HX16.out;have HU17:=hid ((((((HU16.out.store (o:=0) (x:=.int .i64 0) HX16.out HXR.out HVX.out).store (o:=1) (x:=.int .i64 0) (De _ X 0 _ _ _ HX16.out) HXR.out HVX.out).store (o:=2) (x:=.int .i64 0) (De _ X 1 _ _ _ (De _ X 0 _ _ _ HX16.out)) HXR.out HVX.out).store (o:=3) (x:=.string ⟨#[]⟩) (De _ X 2 _ _ _ (De _ X 1 _ _ _ (De _ X 0 _ _ _ HX16.out))) HXR.out HVX.out).store (o:=4) (x:=.string ⟨#[]⟩) (De _ X 3 _ _ _ (De _ X 2 _ _ _ (De _ X 1 _ _ _ (De _ X 0 _ _ _ HX16.out)))) HXR.out HVX.out).store (o:=5) (x:=.int .i64 0) (De _ X 4 _ _ _ (De _ X 3 _ _ _ (De _ X 2 _ _ _ (De _ X 1 _ _ _ (De _ X 0 _ _ _ HX16.out))))) HXR.out HVX.out);have HX17:Hid (((((((w16.setCell ⟨X,0,none⟩ (.int .i64 0)).setCell ⟨X,1,none⟩ (.int .i64 0)).setCell ⟨X,2,none⟩ (.int .i64 0)).setCell ⟨X,3,none⟩ (.string ⟨#[]⟩)).setCell ⟨X,4,none⟩ (.string ⟨#[]⟩)).setCell ⟨X,5,none⟩ (.int .i64 0)).heap[X]? = some (.cells #[.int .i64 0,.int .i64 0,.int .i64 0,.string ⟨#[]⟩,.string ⟨#[]⟩,.int .i64 0] 78 (0,0))):=hid (De _ X 5 _ _ _ (De _ X 4 _ _ _ (De _ X 3 _ _ _ (De _ X 2 _ _ _ (De _ X 1 _ _ _ (De _ X 0 _ _ _ HX16.out))))))
        refine Dm (rs:=[12]) (by kernel_rfl) (by simp) ?_;refine Dk rfl (fun KK hKK=>?_) Dn
        go_simp
        refine hKK.out _ _ HU17.out.2.1.cells.2.1 (fun hHeld4=>sp ?_);clear hKK hHeld3 x0 x1 x2 x3 x4 x5 v0 v1 v2 v3 v4 v5
        refine tkO 13 ?_;refine tkO 14 ?_;refine DZ (by kernel_rfl) ?_ _;refine DT ?_;clear hHeld4;generalize ((((((w16.setCell ⟨X,0,none⟩ (.int .i64 0)).setCell ⟨X,1,none⟩ (.int .i64 0)).setCell ⟨X,2,none⟩ (.int .i64 0)).setCell ⟨X,3,none⟩ (.string ⟨#[]⟩)).setCell ⟨X,4,none⟩ (.string ⟨#[]⟩)).setCell ⟨X,5,none⟩ (.int .i64 0))=w17 at HU17 HX17 ⊢;clear HU16 HX16 HU15d HX15d;obtain ⟨s0,s1,sz,sl⟩:=HU17.out.2.1.cells;go_wp2_with fail
        refine (bi e (c7:Int) _).mono ?_;rintro r w' ⟨rfl,rfl⟩;exact cN e (c7:Int) HU17.out.1 he HRES.out _ rfl rfl
       subst he;obtain ⟨V5,hV5⟩:∃ V,bP K (s.data.toList.drop c7)=V:=⟨_,rfl⟩;obtain ⟨N5,hN5⟩:∃ N,(getN K (s.data.toList.drop c7)).1=N:=⟨_,rfl⟩;obtain ⟨k5,hk5⟩:∃ k,bZ K (s.data.toList.drop c7)=k:=⟨_,rfl⟩;have hfl:=(fy hF).2.2;rw [hk5,Dj,HSL.out] at hfl;obtain ⟨c8,hc8e⟩:∃ c8,c7+k5=c8:=⟨_,rfl⟩;have hc8:c8≤s.size:=by omega
       have kw8:IntKind.i64.wrap ((c7:Int)+(k5:Int))=(c8:Int):=by rw [show (c7:Int)+(k5:Int)=(c8:Int) by omega];exact Dh _ (by omega)
       have HFV:Hid (bP K (s.extract c7 s.size).data.toList=V5):=hid (by rw [aS];exact hV5);have HFN:Hid ((getN K (s.extract c7 s.size).data.toList).1=N5):=hid (by rw [aS];exact hN5);have HFK:Hid (bZ K (s.extract c7 s.size).data.toList=k5):=hid (by rw [aS];exact hk5);have HUO:Hid (b8 s.data.toList h T c3 A=.inr (c8,⟨A2,rep,K,key,V5,N5⟩,nn)):=hid (by
        rw [nE HKF.out HT0.out HP1.out HN1.out HFU.out,HPOS.out,HA2.out,HKK.out,hV5,hN5,hk5,hc8e,DN,HENT.out,DN,HKEY.out];rfl)
       have HUW2:Hid (unW s.data.toList h T k2 b2 0 [] []=unW s.data.toList h T q' c8 A2 (W++[⟨A2,rep,K,key,V5,N5⟩]) (N++[nn])):=hid (by rw [HUW.out,HQ.out,nJ HUO.out]);clear hF hV5 hN5 hk5 hfl hc8e HFU HWR;have hz:((0:Int) != 0)=false:=rfl;go_wp2;refine E6 ?_;refine Ea (S:=(fun w'=>w'.cell? ⟨R,1,none⟩=some (.int .i64 (c7:Int)))) (by kernel_rfl) HU15d.out.2.1.cells.2.1 (fun hHeld=>?_);generalize w15.drew=W15 at HU15d HX15d hHeld ⊢;refine tkO 1 ?_;refine tkO 2 ?_;refine tkO 3 ?_;refine tkO 4 ?_;refine tkO 5 ?_;refine tkO 6 ?_;obtain ⟨x0,x1,x2,x3,x4,x5⟩:=aI HX15d.out;refine Dm (rs:=[0]) (by kernel_rfl) (by simp) ?_;refine Dk rfl (fun KK hKK=>?_) Dn
       go_simp
       refine hKK.out _ _ HU15d.out.2.1.cells.2.1 (fun hHeld2=>sp ?_);clear hKK hHeld x0 x1 x2 x3 x4 x5
       refine Dm (rs:=[7]) (by kernel_rfl) (by simp) ?_;refine Dk rfl (fun KK hKK=>?_) Dn
       go_simp
       refine (qV A2 rep K key (s.extract c7 s.size) V5 N5 k5 W15 HKS.out HSX.out HF0.out HFV.out HFN.out HFK.out).mono ?_;rintro r w16 ⟨rfl,hb16⟩;have HU16:=hid (HU15d.out.below hb16);have HX16:=hid ((hb16.block X (DF.1 HX15d.out).1).trans HX15d.out);clear hb16;refine hKK.out _ _ HU16.out.2.1.cells.2.1 (fun hHeld3=>sp ?_);clear hKK hHeld2
       refine tkO 8 ?_;refine tkO 9 ?_;refine tkO 10 ?_;refine tkO 11 ?_;obtain ⟨x0,x1,x2,x3,x4,x5⟩:=aI HX16.out;obtain ⟨v0,v1,v2,v3,v4,v5⟩:=cd HX16.out;have HU17:=hid ((((((HU16.out.store (o:=0) (x:=.int .i64 A2) HX16.out HXR.out HVX.out).store (o:=1) (x:=.int .i64 rep) (De _ X 0 _ _ _ HX16.out) HXR.out HVX.out).store (o:=2) (x:=.int .i64 K) (De _ X 1 _ _ _ (De _ X 0 _ _ _ HX16.out)) HXR.out HVX.out).store (o:=3) (x:=.string key) (De _ X 2 _ _ _ (De _ X 1 _ _ _ (De _ X 0 _ _ _ HX16.out))) HXR.out HVX.out).store (o:=4) (x:=.string V5) (De _ X 3 _ _ _ (De _ X 2 _ _ _ (De _ X 1 _ _ _ (De _ X 0 _ _ _ HX16.out)))) HXR.out HVX.out).store (o:=5) (x:=.int .i64 N5) (De _ X 4 _ _ _ (De _ X 3 _ _ _ (De _ X 2 _ _ _ (De _ X 1 _ _ _ (De _ X 0 _ _ _ HX16.out))))) HXR.out HVX.out);have HX17:Hid (((((((w16.setCell ⟨X,0,none⟩ (.int .i64 A2)).setCell ⟨X,1,none⟩ (.int .i64 rep)).setCell ⟨X,2,none⟩ (.int .i64 K)).setCell ⟨X,3,none⟩ (.string key)).setCell ⟨X,4,none⟩ (.string V5)).setCell ⟨X,5,none⟩ (.int .i64 N5)).heap[X]? = some (.cells #[.int .i64 A2,.int .i64 rep,.int .i64 K,.string key,.string V5,.int .i64 N5] 78 (0,0))):=hid (De _ X 5 _ _ _ (De _ X 4 _ _ _ (De _ X 3 _ _ _ (De _ X 2 _ _ _ (De _ X 1 _ _ _ (De _ X 0 _ _ _ HX16.out))))))
       refine Dm (rs:=[12]) (by kernel_rfl) (by simp) ?_;refine Dk rfl (fun KK hKK=>?_) Dn
       go_simp
       refine hKK.out _ _ HU17.out.2.1.cells.2.1 (fun hHeld4=>sp ?_);clear hKK hHeld3 x0 x1 x2 x3 x4 x5 v0 v1 v2 v3 v4 v5
       refine tkO 13 ?_;refine tkO 14 ?_;refine DZ (by kernel_rfl) ?_ _;refine DT ?_;clear hHeld4;generalize ((((((w16.setCell ⟨X,0,none⟩ (.int .i64 A2)).setCell ⟨X,1,none⟩ (.int .i64 rep)).setCell ⟨X,2,none⟩ (.int .i64 K)).setCell ⟨X,3,none⟩ (.string key)).setCell ⟨X,4,none⟩ (.string V5)).setCell ⟨X,5,none⟩ (.int .i64 N5))=w17 at HU17 HX17 ⊢;clear HU16 HX16 HU15d HX15d;obtain ⟨s0,s1,sz,sl⟩:=HU17.out.2.1.cells;have HU18:=hid (HU17.out.go (b:=c8));have HX18:=hid (bM (R:=R) (o:=1) HX17.out (by have:=HXR.out;omega) (.int .i64 (c8:Int)));obtain ⟨x0,x1,x2,x3,x4,x5⟩:=aI HX18.out;obtain ⟨⟨_,_,q2⟩,_⟩:=HU18.out.1.cells;have HX19:Hid (dx ((w17.setCell ⟨R,1,none⟩ (.int .i64 (c8:Int))).alloc (.cells #[.int .i64 A2,.int .i64 rep,.int .i64 K,.string key,.string V5,.int .i64 N5] 78)) w17.heap.size ⟨A2,rep,K,key,V5,N5⟩):=hid (by
        have h:=Dg (w17.setCell ⟨R,1,none⟩ (.int .i64 (c8:Int))) (.cells #[.int .i64 A2,.int .i64 rep,.int .i64 K,.string key,.string V5,.int .i64 N5] 78);rw [World.size_setCell] at h;exact h)
       have HU19:=hid (HU18.out.alloc (.cells #[.int .i64 A2,.int .i64 rep,.int .i64 K,.string key,.string V5,.int .i64 N5] 78));have HWS:Hid (W.length+1≤1000000):=hid (by have:=HNW.out;have:=HWQ.out;omega);have HNW1:Hid (W.length+1=nw+1):=hid (by rw [HNW.out]);clear HU17 HX17 HU15 HX15;go_wp2_with (at_builtin;refine od rfl _ _ rfl (R+2) _ W rfl HU19.out.2.2.1.2.2.2.2 w17.heap.size 1 rfl ⟨A2,rep,K,key,V5,N5⟩ HX19.out HWS.out HU19.out.2.2.2.2 ?_)
       intro g2 cap2 w20 ho20 hg20;rw [HNW1.out] at ho20 ⊢;have HU20:=hid (HU19.out.writes ho20 hg20);have hud:=HU19.out.1.kept hg20 (fun k hk=>by have:=ce HU19.out.2.2.1.2.2.2.2 k hk;have:=HU19.out.2.2.2.1;omega);clear x0 x1 x2 x3 x4 x5 q2 s0 s1 sz sl ho20 hg20;obtain ⟨⟨_,_,q2⟩,_,⟨_,_,z2⟩,_⟩:=hud.cells;clear hud;go_wp2;go_roundw
       case rel=>exact ⟨q',c8,A2,W++[⟨A2,rep,K,key,V5,N5⟩],N++[nn],_,by go_num,rfl,⟨hA20,hA21⟩,hc8,⟨by rw [Df];have:=HNW.out;have:=HWQ.out;have:=HQ.out;simp;omega,by rw [Df,Df,HNL.out,HNW.out];rfl⟩,HUW2.out,HU20.out⟩
       case measure=>have:=HQB.out;simp [intOf];omega
      ·obtain rfl:q=0:=by omega
       have HUW2:Hid (unW s.data.toList h T k2 (c+j2) 0 [] []=.inr (c3,W,N)):=hid (by rw [HB2E.out,HUW.out];rfl);obtain ⟨W1',N1',hWe,hNe,_,hrow,_,_,_⟩:=nK HRH.out k2 _ _ _ _ _ _ _ (by rw [HSL.out,HB2E.out];exact hb2s) HUW2.out;rw [E7] at hWe hNe;subst hWe;subst hNe;have HWO:Hid (∀ t∈W,WrOk t):=hid (fun t ht=>(dg (qp _ _ _ hrow t ht)).2.2.2.2.2.2.2.2.2);have HREST:=hid (nO HL.out H1.out H2.out H3N.out HUT4.out H5.out HUW2.out);clear hrow HUW;by_cases hcs2:c3<s.size
       ·have HRES:Hid (unbF s.data.toList=.inl (3,(c3:Int))):=hid (by rw [HREST.out,if_pos (by rw [HSL.out];exact hcs2)]);have d2:(c3:Int)<(s.size:Int):=by omega
        go_wp2_with fail
        refine (bi 3 (c3:Int) _).mono ?_;rintro r w' ⟨rfl,rfl⟩;exact cN 3 (c3:Int) HUS.out.1 (by decide) HRES.out _ rfl rfl
       have hce:c3=s.size:=by omega
       subst hce;have hrest2:unbF s.data.toList=if (aT T (N.map Int.ofNat)).2.1≠0 then .inl ((aT T (N.map Int.ofNat)).2.1,(s.size:Int)) else if (batF f h W).1≠0 then .inl ((batF f h W).1,(s.size:Int)) else .inr (f,h,W):=by
        rw [HREST.out,if_neg (by rw [HSL.out];omega),HSL.out]
       obtain ⟨lr,le,lp,hlf⟩:∃ lr le lp,aT T (N.map Int.ofNat)=(lr,le,lp):=⟨_,_,_,rfl⟩;rw [hlf] at hrest2;simp only at hrest2
       have HR2:=hid hrest2;have HLF:=hid hlf;clear hrest2 hlf HREST hcs2;go_wp2_with fail
       refine (zV _ _ T (N.map Int.ofNat) lr le lp wr HUS.out.2.2.1.2.2.1.isTexts HUS.out.2.2.1.2.2.2.1.isNums (by have:=HNT.out;omega) (by rw [E9];have:=HNL.out;have:=HWQ.out;omega) HLF.out).mono ?_;rintro r w8 ⟨al,nl,cl,rfl,hb8⟩;have HU8:=hid ((HUS.out.below hb8).alloc (.cells #[.int .i64 (le:Int),.int .i64 lp] 28));have HG8:Hid (rowF (w8.alloc (.cells #[.int .i64 (le:Int),.int .i64 lp] 28)) w8.heap.size (le:Int) lp):=hid (Dg w8 _);clear hb8 s0 s1 sz sl;go_wp2_with fail
       refine (aH (le:Int) lp _).mono ?_;rintro r w9 ⟨rfl,hb9⟩;have HU9:=hid (HU8.out.below hb9);have HG9:=hid (rowF.below HG8.out hb9 (by simp));clear hb9 HU8 HG8;by_cases hle:le=0
       rotate_left
       ·have HRES:Hid (unbF s.data.toList=.inl (le,(s.size:Int))):=hid (by rw [HR2.out,if_pos hle]);have hne:((le:Int) == 0)=false:=by simp;omega
        rw [hne];obtain ⟨g0,g1⟩:=HG9.out.at;go_wp2_with fail
        refine (bi le (s.size:Int) _).mono ?_;rintro r w' ⟨rfl,rfl⟩;exact cN le (s.size:Int) HU9.out.1 hle HRES.out _ rfl rfl
       subst hle;rw [show (((0:Nat):Int) == 0)=true by rfl];have HBT:Hid (aR w9 (.slice af nf cf) (.slice ah nh ch) (.slice aw nw cw) f h W):=hid ⟨HU9.out.2.2.1.1.is,HU9.out.2.2.1.2.1.is,HU9.out.2.2.1.2.2.2.2.is,by have:=HRF.out.1;omega,by have:=HRH.out.1;omega,by have:=HNW.out;have:=HWQ.out;omega,HWO.out⟩;obtain ⟨be,bp,hbf⟩:∃ be bp,batF f h W=(be,bp):=⟨_,_,rfl⟩;have hr3:unbF s.data.toList=if be≠0 then .inl (be,(s.size:Int)) else .inr (f,h,W):=by rw [HR2.out,if_neg (by simp),hbf]
       have HR3:=hid hr3;have HBF:=hid hbf;clear hr3 hbf HR2;obtain ⟨⟨q0,q1,q2⟩,_⟩:=HU9.out.1.cells;go_wp2_with fail
       refine (kc _ _ _ f h W be bp w9 HBT.out HBF.out).mono ?_;rintro r w10 ⟨rfl,hb10⟩;have HU10:=hid ((HU9.out.below hb10).alloc (.cells #[.int .i64 (be:Int),.int .i64 bp] 28));have HG10:Hid (rowF (w10.alloc (.cells #[.int .i64 (be:Int),.int .i64 bp] 28)) w10.heap.size (be:Int) bp):=hid (Dg w10 _);clear hb10 q0 q1 q2;go_wp2_with fail
       refine (aH (be:Int) bp _).mono ?_;rintro r w11 ⟨rfl,hb11⟩;have HU11:=hid (HU10.out.below hb11);have HG11:=hid (rowF.below HG10.out hb11 (by simp));clear hb11 HU10 HG10;by_cases hbe:be=0
       rotate_left
       ·have HRES:Hid (unbF s.data.toList=.inl (be,(s.size:Int))):=hid (by rw [HR3.out,if_pos hbe]);have hne:((be:Int) == 0)=false:=by simp;omega
        rw [hne];obtain ⟨g0,g1⟩:=HG11.out.at;go_wp2_with fail
        refine (bi be (s.size:Int) _).mono ?_;rintro r w' ⟨rfl,rfl⟩;exact cN be (s.size:Int) HU11.out.1 hbe HRES.out _ rfl rfl
       subst hbe;rw [show (((0:Nat):Int) == 0)=true by rfl];have HRES:Hid (unbF s.data.toList=.inr (f,h,W)):=hid (by rw [HR3.out,if_neg (by simp)]);obtain ⟨⟨q0,q1,q2⟩,⟨x0,x1⟩,⟨z0,z1,z2⟩,z3,z4⟩:=HU11.out.1.cells;have HUZ:=hid ((((HU11.out.1.put (o:=0) (v:=.slice af nf cf) rfl).put (o:=1) (v:=.slice ah nh ch) rfl).put (o:=2) (v:=.slice aw nw cw) rfl).fault 0 (-1));have HBO:Hid (aJ (((((w11.setCell ⟨w.heap.size,0,none⟩ (.slice af nf cf)).setCell ⟨w.heap.size,1,none⟩ (.slice ah nh ch)).setCell ⟨w.heap.size,2,none⟩ (.slice aw nw cw)).setCell ⟨w.heap.size+1,0,none⟩ (.int .i64 0)).setCell ⟨w.heap.size+1,1,none⟩ (.int .i64 (-1))) (w.heap.size+2) (.slice af nf cf) (.slice ah nh ch) (.slice aw nw cw) f h W):=hid (by
        have hR2:=HU11.out.2.2.2.1;have kk:∀ {W':World} {B o:Nat} {x:Value},B<R→OB (R+2) (.slice af nf cf) (.slice ah nh ch) (.slice at_ nt ct) (.slice an nw cn) (.slice aw nw cw) f h T N W W'→OB (R+2) (.slice af nf cf) (.slice ah nh ch) (.slice at_ nt ct) (.slice an nw cn) (.slice aw nw cw) f h T N W (W'.setCell ⟨B,o,none⟩ x):=fun hB ho=>ho.keep (bz _ _ _ _) (fun k hk=>by injection hk with hk;omega)
        have hoz:=kk (o:=1) (x:=.int .i64 (-1)) (B:=w.heap.size+1) (by omega) (kk (o:=0) (x:=.int .i64 0) (B:=w.heap.size+1) (by omega) (kk (o:=2) (x:=.slice aw nw cw) (B:=w.heap.size) (by omega) (kk (o:=1) (x:=.slice ah nh ch) (B:=w.heap.size) (by omega) (kk (o:=0) (x:=.slice af nf cf) (B:=w.heap.size) (by omega) HU11.out.2.2.1))));exact ⟨hoz.1.mono (by omega),hoz.2.1.mono (by omega),hoz.2.2.2.2.mono (by omega),HRF.out.1,HRH.out.1,by have:=HNW.out;have:=HWQ.out;omega,HWO.out⟩)
       go_wp2;exact BH HUZ.out HBO.out HRES.out _ rfl rfl
