import Derived.Test.YtjkbmfpomgcblaaGreatDoorKr33
namespace Go.Proofs.YtjkbmfpomgcblaaGreatDoor
open Go.RowKit
def U1 (s:List UInt8) (k:Nat) (f h:List Ent) (a:Nat):Prop :=
 (k=0∧f=[]∧h=[]∧a=0)∨(k=1∧vreadF s=(0,a,f)∧h=[])∨(k=2∧∃ n m,vreadF s=(0,n,f)∧vreadF (s.drop n)=(0,m,h)∧a=n + m)
def PT (B R:Nat) (w:World):Prop:=w.heap[R + 1]? = some (.cells #[.pointer (some ⟨B,0,none⟩),.pointer (some ⟨B,1,none⟩)] 98 (0,0))
theorem PT.kept {B R:Nat} {w w':World} {row:Option Nat} (h:PT B R w) (hg:w.grownBy w' row) (hr:row≠some (R + 1)):PT B R w' :=
 (hg.block _ (Array.getElem?_eq_some_iff.1 h).1 (fun e=>hr e.symm)).trans h
theorem PT.below {B R:Nat} {w w':World} (h:PT B R w) (hb:Below w.heap.size w w'):PT B R w':=h.kept (grown_b hb) (by simp)
theorem rvread_as (x:ByteArray) (e n:Nat) (l:List Ent) (w:World) (hs:x.size≤1000000) (h:vreadF x.data.toList=(e,n,l)) :
   Calls Tryz.prog 126 #[.string x] w fun r w'=>∃ v,r=.returned (.tuple #[v,.int .i64 (n:Int),.agg #[.int .i64 (e:Int),.int .i64 (-1)]])∧ownsE w' w.heap.size v l∧Below w.heap.size w w':=by
 refine (rvread_any x w hs).mono ?_
 rintro r w' ⟨v,rfl,h2,h3⟩
 rw [h] at h2 ⊢
 exact ⟨v,rfl,h2,h3⟩
theorem grown_past {w w':World} {o:Obj} {row:Option Nat} (h:(w.alloc o).drew.grownBy w' row):w.grownBy w' row :=
 ⟨h.os,h.tape,h.output,Nat.le_trans (show w.heap.size≤(w.alloc o).heap.size by simp) h.size,fun k hk hne=>(h.block k (show k < (w.alloc o).heap.size by simp;omega) hne).trans (Below.heap_alloc _ _ _ hk)⟩
theorem rfill_ok (T R K:Int) (key s V:ByteArray) (N:Int) (k:Nat) (w:World) (hk:key.size≤140737488351232) (hs:s.size≤140737488351232) (h0:fillE T R K key s.data.toList=0) (hV:fillV K s.data.toList=V) (hN:(getN K s.data.toList).1=N) (hn:fillN K s.data.toList=k) :
   Calls Tryz.prog 80 #[.agg #[.int .i64 T,.int .i64 R,.int .i64 K,.string key,.string ⟨#[]⟩,.int .i64 0],.string s] w fun r w'=>r=.returned (.tuple #[.agg #[.int .i64 T,.int .i64 R,.int .i64 K,.string key,.string V,.int .i64 N],.int .i64 (k:Int),.int .i64 0])∧Below w.heap.size w w':=by
 refine (rfill_any T R K key ⟨#[]⟩ 0 s w hk hs).mono ?_
 rintro r w' ⟨⟨v,rfl,hf⟩,hb⟩
 refine ⟨?_,hb⟩
 rcases hf with ⟨h1,_⟩ | ⟨_,rfl⟩
 · exact absurd h0 h1
 · rw [←hV,←hN,←hn];rfl
theorem rfill_bad (T R K:Int) (key s:ByteArray) (e:Nat) (w:World) (hk:key.size≤140737488351232) (hs:s.size≤140737488351232) (h0:fillE T R K key s.data.toList=e) (he:e≠0) :
   Calls Tryz.prog 80 #[.agg #[.int .i64 T,.int .i64 R,.int .i64 K,.string key,.string ⟨#[]⟩,.int .i64 0],.string s] w fun r w'=>r=.returned (.tuple #[.agg #[.int .i64 0,.int .i64 0,.int .i64 0,.string ⟨#[]⟩,.string ⟨#[]⟩,.int .i64 0],.int .i64 0,.int .i64 (e:Int)])∧Below w.heap.size w w':=by
 refine (rfill_any T R K key ⟨#[]⟩ 0 s w hk hs).mono ?_
 rintro r w' ⟨⟨v,rfl,hf⟩,hb⟩
 refine ⟨?_,hb⟩
 rcases hf with ⟨_,rfl⟩ | ⟨h1,_⟩
 · rw [h0];rfl
 · rw [h0] at h1;exact absurd h1 he
theorem intL_zero {l:List UInt8} {most:Int} {t k e:Nat} (h:intL l most=(t,k,e)) (he:e≠0):intL l most=(0,0,e):=by
 rcases intL_cases l most with ⟨e',h1,_⟩ | ⟨n',k',h1,_⟩
 · rw [h1] at h;simp only [Prod.mk.injEq] at h;rw [h1,h.2.2]
 · rw [h1] at h;simp only [Prod.mk.injEq] at h;exact absurd h.2.2.symm he
theorem ents_at {w:World} {b o n c i:Nat} {l:List Ent} {t:Ent} (h:IsEnts w (.slice (some ⟨b,o,none⟩) n c) l) (hi:l[i]? = some t):w.cell? ⟨b,o + i * 2,none⟩=some (.int .i64 t.rep):=by
 obtain ⟨a,c',e,f⟩:=h.form
 obtain ⟨b',o',ea,_,q,_⟩:=f i t hi
 injection e with e1
 rw [ea] at e1
 injection e1 with e1
 injection e1 with e1 e2
 subst e1 e2
 exact q
theorem texts_at {w:World} {b o n c i:Nat} {l:List ByteArray} {t:ByteArray} (h:IsTexts w (.slice (some ⟨b,o,none⟩) n c) l) (hi:l[i]? = some t):w.cell? ⟨b,o + i,none⟩=some (.string t):=by
 obtain ⟨a,c',e,_,f⟩:=h
 obtain ⟨b',o',ea,_,q⟩:=f i t hi
 injection e with e1
 rw [ea] at e1
 injection e1 with e1
 injection e1 with e1 e2
 subst e1 e2
 exact q
theorem rlist_as (v u:Value) (T:List ByteArray) (l:List Int) (lr:List ByteArray) (le:Nat) (lp:Int) (w:World) (hv:IsTexts w v T) (hu:IsNums w u l) (hT:T.length≤1000000) (hl:l.length≤1000000) (h:listF T l=(lr,le,lp)) :
   Calls Tryz.prog 127 #[v,u] w fun r w'=>∃ al nl cl,r=.returned (.tuple #[.slice al nl cl,.agg #[.int .i64 (le:Int),.int .i64 lp]])∧Below w.heap.size w w':=by
 refine (rlist_any v u T l w hv hu hT hl).mono ?_
 rintro r w' ⟨x,rfl,ho,hb⟩
 rw [h] at ho ⊢
 obtain ⟨al,cl,rfl,_⟩:=ho.isTexts
 exact ⟨al,_,cl,rfl,hb⟩
set_option maxRecDepth 100000 in
set_option maxHeartbeats 1000000 in
theorem runbody_big (s:ByteArray) (w:World) (hs:s.size≤maxLen) (hbig:20000 < s.size) :
   Calls Tryz.prog 73 #[.string s] w (RUnbodyIs w s.data.toList):=by
 unfold maxLen at hs
 have HRES:=Lib.hid (unb_long (s:=s.data.toList) (by rw [←size_data];exact hbig))
 have d1:(20000:Int) < (s.size:Int):=by omega
 have HW:Hid (UD w ((w.alloc (.cells #[.slice none 0 0,.slice none 0 0,.slice none 0 0] 25)).alloc (.cells #[.int .i64 0,.int .i64 0] 46)) (.slice none 0 0) (.slice none 0 0) (.slice none 0 0) 0 0):=Lib.hid (by
   refine ⟨?_,heap_alloc2_new w _ _,((Below.refl _ _).alloc (Nat.le_refl _) _).alloc (by simp) _,by simp⟩
   rw [Below.heap_alloc _ _ _ (by simp)];exact heap_alloc_new w _)
 go_enter_defers Tryz.func73,Tryz.ntmps73
 go_wp2
 generalize (w.alloc (.cells #[.slice none 0 0,.slice none 0 0,.slice none 0 0] 25)).alloc (.cells #[.int .i64 0,.int .i64 0] 46)=W at HW ⊢
 obtain ⟨⟨c0,c1,c2⟩,⟨x0,x1⟩,⟨z0,z1,z2⟩,z3,z4⟩:=HW.out.cells
 refine wp_region_noPanic ?_
 go_region_law (first | (go_simp;go_at_call 71;(refine (baref_any 4 _).mono ?_;rintro r w1 ⟨rfl,hb1⟩;have HB1:=Lib.hid (UD.kept HW.out (grown_b (undrew3 hb1)) (fun k hk=>by cases hk));clear hb1;obtain ⟨⟨c0,c1,c2⟩,⟨x0,x1⟩,⟨z0,z1,z2⟩,z3,z4⟩:=HB1.out.cells)))
 all_goals
   refine NoPanic.normal ?_
   have HB2:=Lib.hid ((((HB1.out.put (o:=0) (v:=.slice none 0 0) rfl).put (o:=1) (v:=.slice none 0 0) rfl).put (o:=2) (v:=.slice none 0 0) rfl).fault 4 (-1))
   go_wp2
   generalize ((((w1.setCell ⟨w.heap.size,0,none⟩ (.slice none 0 0)).setCell ⟨w.heap.size,1,none⟩ (.slice none 0 0)).setCell ⟨w.heap.size,2,none⟩ (.slice none 0 0)).setCell ⟨w.heap.size + 1,0,none⟩ (.int .i64 4)).setCell ⟨w.heap.size + 1,1,none⟩ (.int .i64 (-1))=WZ at HB2 ⊢
   obtain ⟨⟨q0,q1,q2⟩,⟨v2,v3⟩,_⟩:=HB2.out.cells
   exact ⟨.tuple #[.agg #[.slice none 0 0,.slice none 0 0,.slice none 0 0],.agg #[.int .i64 4,.int .i64 (-1)]],by simp [results,Tryz.results73,go_sem,q0,q1,q2,v2,v3],HB2.out.2.2.1,.inl ⟨4,-1,HRES.out,rfl⟩⟩
set_option maxRecDepth 100000 in
set_option maxHeartbeats 16000000 in
theorem runbody_fits (s:ByteArray) (w:World) (hs:s.size≤20000) :
   Calls Tryz.prog 73 #[.string s] w (RUnbodyIs w s.data.toList):=by
 have HSL:Hid (s.data.toList.length=s.size):=Lib.hid (size_data s).symm
 have HS6:Hid (s.size≤1000000):=Lib.hid (by omega)
 have HL:Hid (¬ 20000 < s.data.toList.length):=Lib.hid (by rw [HSL.out];omega)
 have d1:(s.size:Int)≤20000:=by omega
 have hmf:∀ (fn:Fn) (first cap:Array Value) (w:World),(Instr.makeFunc fn first cap).run Tryz.prog w=.ok (.func fn first cap) w:=fun _ _ _ _=>rfl
 go_enter_defers Tryz.func73,Tryz.ntmps73
 go_wp2_with fail
 refine (good_any _).mono ?_
 rintro r w1 ⟨rfl,hb1⟩
 have HA:Hid (UD w w1 (.slice none 0 0) (.slice none 0 0) (.slice none 0 0) 0 0):=Lib.hid (by
   have h0:UD w ((w.alloc (.cells #[.slice none 0 0,.slice none 0 0,.slice none 0 0] 25)).alloc (.cells #[.int .i64 0,.int .i64 0] 46)) (.slice none 0 0) (.slice none 0 0) (.slice none 0 0) 0 0:=by
     refine ⟨?_,heap_alloc2_new w _ _,((Below.refl _ _).alloc (Nat.le_refl _) _).alloc (by simp) _,by simp⟩
     rw [Below.heap_alloc _ _ _ (by simp)];exact heap_alloc_new w _
   exact h0.kept (grown_b hb1) (fun k hk=>by cases hk))
 clear hb1
 obtain ⟨_,⟨c0,c1⟩,_,z0,z1⟩:=HA.out.cells
 have HUS0:Hid (US w w1.heap.size s 0 (.slice none 0 0) (.slice none 0 0) (.slice none 0 0) (.slice none 0 0) (.slice none 0 0) [] [] [] [] [] ((((w1.setCell ⟨w.heap.size + 1,0,none⟩ (.int .i64 0)).setCell ⟨w.heap.size + 1,1,none⟩ (.int .i64 (-1))).alloc (.cells #[.string s,.int .i64 0] 97)).alloc (.cells #[.pointer (some ⟨w.heap.size,0,none⟩),.pointer (some ⟨w.heap.size,1,none⟩)] 98))):=Lib.hid (by
   have h1:=HA.out.fault 0 (-1)
   have hsz:((w1.setCell ⟨w.heap.size + 1,0,none⟩ (.int .i64 0)).setCell ⟨w.heap.size + 1,1,none⟩ (.int .i64 (-1))).heap.size=w1.heap.size:=by simp
   generalize (w1.setCell ⟨w.heap.size + 1,0,none⟩ (.int .i64 0)).setCell ⟨w.heap.size + 1,1,none⟩ (.int .i64 (-1))=w2 at h1 hsz ⊢
   refine ⟨(h1.kept (World.grownBy_alloc _ _ none) (fun k hk=>by cases hk)).kept (World.grownBy_alloc _ _ none) (fun k hk=>by cases hk),?_,⟨ownsE_nil _ _,ownsE_nil _ _,ownsS_nil _ _,ownsN_nil _ _,ownsW_nil _ _⟩,HA.out.2.2.2,by simp;omega⟩
   unfold Sc
   rw [←hsz,Below.heap_alloc _ _ _ (by simp)]
   exact heap_alloc_new w2 _)
 have HPT0:Hid (PT w.heap.size w1.heap.size ((((w1.setCell ⟨w.heap.size + 1,0,none⟩ (.int .i64 0)).setCell ⟨w.heap.size + 1,1,none⟩ (.int .i64 (-1))).alloc (.cells #[.string s,.int .i64 0] 97)).alloc (.cells #[.pointer (some ⟨w.heap.size,0,none⟩),.pointer (some ⟨w.heap.size,1,none⟩)] 98))):=Lib.hid (by
   have hsz:(((w1.setCell ⟨w.heap.size + 1,0,none⟩ (.int .i64 0)).setCell ⟨w.heap.size + 1,1,none⟩ (.int .i64 (-1))).alloc (.cells #[.string s,.int .i64 0] 97)).heap.size=w1.heap.size + 1:=by simp
   unfold PT
   rw [←hsz]
   exact heap_alloc_new _ _)
 go_wp2
 clear c0 c1 z0 z1 HA
 generalize (((w1.setCell ⟨w.heap.size + 1,0,none⟩ (.int .i64 0)).setCell ⟨w.heap.size + 1,1,none⟩ (.int .i64 (-1))).alloc (.cells #[.string s,.int .i64 0] 97)).alloc (.cells #[.pointer (some ⟨w.heap.size,0,none⟩),.pointer (some ⟨w.heap.size,1,none⟩)] 98)=W2 at HUS0 HPT0 ⊢
 generalize w1.heap.size=R at HUS0 HPT0 ⊢
 go_loopw [40] (fun i wr=>∃ (k a:Nat) (f h:List Ent) (vf vh:Value),k≤2∧i=.int .i64 k∧U1 s.data.toList k f h a∧a≤s.size∧US w R s a vf vh (.slice none 0 0) (.slice none 0 0) (.slice none 0 0) f h [] [] [] wr∧PT w.heap.size R wr) (fun i _=>2 - (intOf i).toNat)
 case atStart=>exact ⟨0,0,[],[],.slice none 0 0,.slice none 0 0,by omega,rfl,.inl ⟨rfl,rfl,rfl,rfl⟩,Nat.zero_le _,HUS0.out,HPT0.out⟩
 case round =>
   obtain ⟨k,a,f,h,vf,vh,hk,rfl,hu,ha,us,pt⟩:=hrel
   have HUS:=Lib.hid us
   have HPT:=Lib.hid pt
   clear us pt HUS0 HPT0
   rcases hu with ⟨rfl,rfl,rfl,ha0⟩ | ⟨rfl,h1,rfl⟩ | ⟨rfl,n,m,h1,h2,hanm⟩
   · clear hk
     have HA0:=Lib.hid ha0
     clear ha0
     have HPR:=Lib.hid HPT.out
     have p0:wr.cell? ⟨R + 1,0,none⟩=some (.pointer (some ⟨w.heap.size,0,none⟩)):=cell_of_row _ _ 0 _ _ (0,0) HPT.out
     obtain ⟨s0,s1,sz,sl⟩:=HUS.out.2.1.cells
     have d3:(0:Int)≤(a:Int):=by omega
     have d4:(a:Int)≤(s.size:Int):=by omega
     rcases vread_cases s.data.toList with ⟨e,h1,he⟩ | ⟨n,f,h1⟩
     · have HRES:Hid (unbF s.data.toList=.inl (e,(a:Int))):=Lib.hid (by rw [HA0.out];exact unb_from HL.out h1 he)
       have HRV:Hid (vreadF (s.extract a s.size).data.toList=(e,0,[])):=Lib.hid (by rw [ext_dropV,HA0.out];exact h1)
       clear h1
       have hne:((e:Int) == 0)=false:=by simp;omega
       go_wp2_with fail
       refine (rvread_as (s.extract a s.size) e 0 [] wr (Nat.le_trans ext_le HS6.out) HRV.out).mono ?_
       rintro r w2 ⟨v,rfl,hv,hb2⟩
       obtain ⟨av,cv,rfl,_⟩:=hv.is.form
       have HUA:=Lib.hid ((HUS.out.below hb2).alloc (.cells #[.int .i64 (e:Int),.int .i64 (-1)] 46))
       have HGA:Hid (rowF (w2.alloc (.cells #[.int .i64 (e:Int),.int .i64 (-1)] 46)) w2.heap.size (e:Int) (-1)):=Lib.hid (heap_alloc_new w2 _)
       clear hv hb2
       go_wp2_with fail
       refine (is_any (e:Int) (-1) _).mono ?_
       rintro r w3 ⟨rfl,hb3⟩
       rw [hne]
       have HU3:=Lib.hid (HUA.out.below hb3)
       have HG3:=Lib.hid (rowF.below HGA.out hb3 (by simp))
       clear hb3 s0 s1 sz sl p0
       obtain ⟨s0,s1,sz,sl⟩:=HU3.out.2.1.cells
       obtain ⟨g0,g1⟩:=HG3.out.at
       go_wp2
       go_still_tail 6,(by kernel_rfl)
       change wpList _ _ _ _ _ w3.drew
       have HU4:=Lib.hid HU3.out.drew
       generalize w3.drew=w4 at HU4 ⊢
       go_wp2_with fail
       refine (throw_any e ((a:Int):Int) _).mono ?_
       rintro r w' ⟨rfl,rfl⟩
       exact udoor_bad e ((a:Int):Int) HU4.out.1 he HRES.out _ rfl rfl
     · have hn2:=(vread_only h1).2.2.1
       rw [HSL.out] at hn2
       have hn3:a + n≤s.size:=by rw [HA0.out];omega
       have HRV:Hid (vreadF (s.extract a s.size).data.toList=(0,n,f)):=Lib.hid (by rw [ext_dropV,HA0.out];exact h1)
       have HF:=Lib.hid h1
       clear h1
       go_wp2_with fail
       refine (rvread_as (s.extract a s.size) 0 n f wr (Nat.le_trans ext_le HS6.out) HRV.out).mono ?_
       rintro r w2 ⟨v,rfl,hv,hb2⟩
       obtain ⟨av,cv,rfl,_⟩:=hv.is.form
       obtain ⟨nv,hnv⟩:∃ nv,nv=f.length:=⟨_,rfl⟩
       rw [←hnv] at hv ⊢
       have HUA:=Lib.hid ((HUS.out.below hb2).alloc (.cells #[.int .i64 ((0:Nat):Int),.int .i64 (-1)] 46))
       have HVA:=Lib.hid ((hv.alloc (.cells #[.int .i64 ((0:Nat):Int),.int .i64 (-1)] 46)).mono HUS.out.2.2.2.2)
       have HPA:Hid (PT w.heap.size R (w2.alloc (.cells #[.int .i64 ((0:Nat):Int),.int .i64 (-1)] 46))):=Lib.hid ((HPT.out.below hb2).below ((Below.refl _ _).alloc (Nat.le_refl _) _))
       clear hv hb2 hnv
       go_wp2_with fail
       refine (is_any 0 (-1) _).mono ?_
       rintro r w3 ⟨rfl,hb3⟩
       have HU3:=Lib.hid (HUA.out.below hb3)
       have HV3:=Lib.hid (HVA.out.below hb3)
       have HP3:=Lib.hid (HPA.out.below hb3)
       clear hb3 s0 s1 sz sl p0
       obtain ⟨⟨c0,c1,c2⟩,_,⟨z0,z1,z2⟩,_⟩:=HU3.out.1.cells
       have HU5:=Lib.hid (HU3.out.from HV3.out)
       have HP5:=Lib.hid (HP3.out.kept (grown_setQ w3 w.heap.size 0 (.slice av nv cv)) (by have:=HUS.out.2.2.2.1;simp;omega))
       clear HU3 HV3 HP3 HUA HVA HPA
       obtain ⟨s0,s1,sz,sl⟩:=HU5.out.2.1.cells
       obtain ⟨b,hb⟩:∃ b,b=a + n:=⟨_,rfl⟩
       have hbs:b≤s.size:=by omega
       have kw:IntKind.i64.wrap (((a:Int):Int) + (n:Int))=(b:Int):=by rw [show ((a:Int):Int) + (n:Int)=(b:Int) by rw [hb];simp];exact IntWalk.i64_in _ (by omega)
       have HBB:=Lib.hid hb
       clear hb
       go_wp2
       have HU6:Hid (US w R s b _ _ _ _ _ _ _ _ _ _ _):=Lib.hid (HU5.out.go (b:=b))
       have HP6:=Lib.hid (HP5.out.kept (grown_setQ _ R 1 (.int .i64 (b:Int))) (by simp))
       go_roundw
       case rel=>exact ⟨1,b,f,[],.slice av nv cv,vh,by omega,by go_num,.inr (.inl ⟨rfl,by rw [HBB.out,HA0.out,Nat.zero_add];exact HF.out,rfl⟩),hbs,HU6.out,HP6.out⟩
       case measure=>simp [intOf]
   · clear hk
     have HPR:=Lib.hid HPT.out
     have p0:wr.cell? ⟨R + 1,1,none⟩=some (.pointer (some ⟨w.heap.size,1,none⟩)):=cell_of_row _ _ 1 _ _ (0,0) HPT.out
     obtain ⟨s0,s1,sz,sl⟩:=HUS.out.2.1.cells
     have d3:(0:Int)≤(a:Int):=by omega
     have d4:(a:Int)≤(s.size:Int):=by omega
     have H1:=Lib.hid h1
     clear h1
     rcases vread_cases (s.data.toList.drop a) with ⟨e,h2,he⟩ | ⟨m,h,h2⟩
     · have HRES:=Lib.hid (unb_have HL.out H1.out h2 he)
       have HRV:Hid (vreadF (s.extract a s.size).data.toList=(e,0,[])):=Lib.hid (by rw [ext_dropV];exact h2)
       clear h2
       have hne:((e:Int) == 0)=false:=by simp;omega
       go_wp2_with fail
       refine (rvread_as (s.extract a s.size) e 0 [] wr (Nat.le_trans ext_le HS6.out) HRV.out).mono ?_
       rintro r w2 ⟨v,rfl,hv,hb2⟩
       obtain ⟨av,cv,rfl,_⟩:=hv.is.form
       have HUA:=Lib.hid ((HUS.out.below hb2).alloc (.cells #[.int .i64 (e:Int),.int .i64 (-1)] 46))
       have HGA:Hid (rowF (w2.alloc (.cells #[.int .i64 (e:Int),.int .i64 (-1)] 46)) w2.heap.size (e:Int) (-1)):=Lib.hid (heap_alloc_new w2 _)
       clear hv hb2
       go_wp2_with fail
       refine (is_any (e:Int) (-1) _).mono ?_
       rintro r w3 ⟨rfl,hb3⟩
       rw [hne]
       have HU3:=Lib.hid (HUA.out.below hb3)
       have HG3:=Lib.hid (rowF.below HGA.out hb3 (by simp))
       clear hb3 s0 s1 sz sl p0
       obtain ⟨s0,s1,sz,sl⟩:=HU3.out.2.1.cells
       obtain ⟨g0,g1⟩:=HG3.out.at
       go_wp2
       go_still_tail 6,(by kernel_rfl)
       change wpList _ _ _ _ _ w3.drew
       have HU4:=Lib.hid HU3.out.drew
       generalize w3.drew=w4 at HU4 ⊢
       go_wp2_with fail
       refine (throw_any e ((a:Int):Int) _).mono ?_
       rintro r w' ⟨rfl,rfl⟩
       exact udoor_bad e ((a:Int):Int) HU4.out.1 he HRES.out _ rfl rfl
     · have hn2:=(vread_only h2).2.2.1
       rw [List.length_drop,HSL.out] at hn2
       have HRV:Hid (vreadF (s.extract a s.size).data.toList=(0,m,h)):=Lib.hid (by rw [ext_dropV];exact h2)
       have HF:=Lib.hid h2
       clear h2
       go_wp2_with fail
       refine (rvread_as (s.extract a s.size) 0 m h wr (Nat.le_trans ext_le HS6.out) HRV.out).mono ?_
       rintro r w2 ⟨v,rfl,hv,hb2⟩
       obtain ⟨av,cv,rfl,_⟩:=hv.is.form
       obtain ⟨nv,hnv⟩:∃ nv,nv=h.length:=⟨_,rfl⟩
       rw [←hnv] at hv ⊢
       have HUA:=Lib.hid ((HUS.out.below hb2).alloc (.cells #[.int .i64 ((0:Nat):Int),.int .i64 (-1)] 46))
       have HVA:=Lib.hid ((hv.alloc (.cells #[.int .i64 ((0:Nat):Int),.int .i64 (-1)] 46)).mono HUS.out.2.2.2.2)
       have HPA:Hid (PT w.heap.size R (w2.alloc (.cells #[.int .i64 ((0:Nat):Int),.int .i64 (-1)] 46))):=Lib.hid ((HPT.out.below hb2).below ((Below.refl _ _).alloc (Nat.le_refl _) _))
       clear hv hb2 hnv
       go_wp2_with fail
       refine (is_any 0 (-1) _).mono ?_
       rintro r w3 ⟨rfl,hb3⟩
       have HU3:=Lib.hid (HUA.out.below hb3)
       have HV3:=Lib.hid (HVA.out.below hb3)
       have HP3:=Lib.hid (HPA.out.below hb3)
       clear hb3 s0 s1 sz sl p0
       obtain ⟨⟨c0,c1,c2⟩,_,⟨z0,z1,z2⟩,_⟩:=HU3.out.1.cells
       have HU5:=Lib.hid (HU3.out.have HV3.out)
       have HP5:=Lib.hid (HP3.out.kept (grown_setQ w3 w.heap.size 1 (.slice av nv cv)) (by have:=HUS.out.2.2.2.1;simp;omega))
       clear HU3 HV3 HP3 HUA HVA HPA
       obtain ⟨s0,s1,sz,sl⟩:=HU5.out.2.1.cells
       obtain ⟨b,hb⟩:∃ b,b=a + m:=⟨_,rfl⟩
       have hbs:b≤s.size:=by omega
       have kw:IntKind.i64.wrap (((a:Int):Int) + (m:Int))=(b:Int):=by rw [show ((a:Int):Int) + (m:Int)=(b:Int) by rw [hb];simp];exact IntWalk.i64_in _ (by omega)
       have HBB:=Lib.hid hb
       clear hb
       go_wp2
       have HU6:Hid (US w R s b _ _ _ _ _ _ _ _ _ _ _):=Lib.hid (HU5.out.go (b:=b))
       have HP6:=Lib.hid (HP5.out.kept (grown_setQ _ R 1 (.int .i64 (b:Int))) (by simp))
       go_roundw
       case rel=>exact ⟨2,b,f,h,vf,.slice av nv cv,by omega,by go_num,.inr (.inr ⟨rfl,a,m,H1.out,HF.out,HBB.out⟩),hbs,HU6.out,HP6.out⟩
       case measure=>simp [intOf]
   · have HRF:=Lib.hid (vread_only h1).1
     have HRH:=Lib.hid (vread_only h2).1
     have H1:=Lib.hid h1
     have H2:=Lib.hid h2
     have HANM:=Lib.hid hanm
     clear h1 h2 hanm hk HPT
     rcases intL_cases (s.data.toList.drop a) 60 with ⟨e,h3,he,_⟩ | ⟨k1,j1,h3,hk60,_,hj10,hj1l,_⟩
     · have HRES:Hid (unbF s.data.toList=.inl (e,(a:Int))):=Lib.hid (by rw [HANM.out];exact unb_texts HL.out H1.out H2.out (by rw [←HANM.out];exact h3) he)
       have H3:=Lib.hid h3
       clear h3
       go_wp2_with fail
       refine (next_bad R s a e 60 wr HUS.out.2.1 HS6.out ha (by decide) (by decide) H3.out he).mono ?_
       rintro r w2 ⟨rfl,hg2⟩
       exact udoor_bad e (a:Int) (HUS.out.1.kept hg2 (fun k hk=>by injection hk with hk;have:=HUS.out.2.2.2.1;omega)) he HRES.out _ rfl rfl
     rw [List.length_drop,HSL.out] at hj1l
     obtain ⟨b,hb⟩:∃ b,a + j1=b:=⟨_,rfl⟩
     have hbs:b≤s.size:=by omega
     have H3:=Lib.hid h3
     have H3N:Hid (intL (s.data.toList.drop (n + m)) 60=(k1,j1,0)):=Lib.hid (by rw [←HANM.out];exact h3)
     have HB:Hid (n + m + j1=b):=Lib.hid (by rw [←HANM.out];exact hb)
     have HJ10:=Lib.hid hj10
     have HBE:=Lib.hid hb
     clear h3 hb hj1l hj10
     go_wp2_with fail
     refine (next_ok R s a k1 j1 60 wr HUS.out.2.1 HS6.out ha (by decide) (by decide) H3.out HJ10.out).mono ?_
     rintro r w2 ⟨rfl,hs2,hg2⟩
     rw [HBE.out] at hs2
     have HU2:=Lib.hid (HUS.out.next hs2 hg2)
     clear hs2 hg2 HUS ha
     go_wp2
     go_loopw [10,11] (fun tv kv wr=>∃ (q c:Nat) (T:List ByteArray),kv=.int .i64 q∧c≤s.size∧T.length + q=k1∧(∀ x∈T,x.size≤2000)∧unT s.data.toList k1 b []=unT s.data.toList q c T∧US w R s c vf vh tv (.slice none 0 0) (.slice none 0 0) f h T [] [] wr) (fun _ kv _=>(intOf kv).toNat)
     case atStart=>exact ⟨k1,b,[],rfl,hbs,by simp,by simp,rfl,HU2.out⟩
     case round =>
       obtain ⟨q,c,T,rfl,hc,hTq,hts,hun,us⟩:=hrel
       have HUT:=Lib.hid us
       have HUN:=Lib.hid hun
       have HTS:=Lib.hid hts
       have HTQ:=Lib.hid hTq
       obtain ⟨at_,ct,rfl,_,_⟩:=us.2.2.1.2.2.1.isTexts
       obtain ⟨nt,hnt⟩:∃ nt,nt=T.length:=⟨_,rfl⟩
       rw [←hnt] at HUT ⊢
       have HNT:=Lib.hid hnt
       clear us hun hts hTq hnt HU2
       obtain ⟨s0,s1,sz,sl⟩:=HUT.out.2.1.cells
       have d3:(0:Int)≤(c:Int):=by omega
       have d4:(c:Int)≤(s.size:Int):=by omega
       by_cases hq:0 < q
       · obtain ⟨q',hq'⟩:∃ q',q=q' + 1:=⟨q - 1,by omega⟩
         have HQ:=Lib.hid hq'
         have hq60:q≤60:=by have:=HTQ.out;omega
         have hq0:(0:Int) < (q:Int):=by omega
         have hq1:IntKind.i64.wrap ((q:Int) - 1)=(q':Int):=by rw [show (q:Int) - 1=(q':Int) by omega];exact IntWalk.i64_in _ (by omega)
         have hq2:IntKind.i64.wrap (q':Int)=(q':Int):=IntWalk.i64_in _ (by omega)
         have HQB:Hid (q' < q∧q≤60):=Lib.hid (by have:=HTQ.out;omega)
         obtain ⟨t,n2,e,hg⟩:∃ t n e,getS (s.data.toList.drop c)=(t,n,e):=⟨_,_,_,rfl⟩
         by_cases he:e=0
         · subst he
           obtain ⟨y1,y2,y3,y4⟩:=wspan_only hg
           rw [List.length_drop,HSL.out] at y2
           obtain ⟨X,hX⟩:∃ X:ByteArray,X=⟨t.toArray⟩:=⟨_,rfl⟩
           have HXS:Hid (X.size≤2000):=Lib.hid (by rw [hX,bs_size];exact y3)
           obtain ⟨c2,hc2⟩:∃ c2,c2=c + n2:=⟨_,rfl⟩
           have hc2s:c2≤s.size:=by omega
           have kw:IntKind.i64.wrap ((c:Int) + (n2:Int))=(c2:Int):=by rw [show (c:Int) + (n2:Int)=(c2:Int) by rw [hc2];simp];exact IntWalk.i64_in _ (by omega)
           have HUN2:Hid (unT s.data.toList k1 b []=unT s.data.toList q' c2 (T ++ [X])):=Lib.hid (by rw [HUN.out,HQ.out,unT_ok hg,hX,hc2])
           have HG:=Lib.hid hg
           have HX:=Lib.hid hX
           have HTL:Hid (T.length + 1≤8796093022208):=Lib.hid (by have:=HTQ.out;omega)
           clear hg hX hc2 y1 y2 y3 y4
           have HUA:=Lib.hid (HUT.out.alloc (.cells #[.string X] 9))
           obtain ⟨_,s1A,szA,slA⟩:=HUA.out.2.1.cells
           go_wp2_with fail
           refine (runspan_ok (s.extract c s.size) X n2 wr (Nat.le_trans ext_le (by have:=HS6.out;omega)) (ext_dropV s c) HG.out HX.out).mono ?_
           rintro r w' ⟨rfl,rfl⟩
           go_wp2
           refine wp_region_noPanic ?_
           go_region_law (first | (refine step_append_str _ rfl _ _ rfl (R + 2) _ T rfl (HUT.out.2.2.1.2.2.1.alloc _) ⟨wr.heap.size,0,none⟩ 1 rfl X (by simp [Addr.add]) HTL.out (by have:=HUT.out.2.2.2.2;simp;omega) ?_;intro g cap w3 ho3 hg3;have HU3:=Lib.hid (HUT.out.texts ho3 (grown_past hg3));obtain ⟨_,s1B,szB,slB⟩:=HU3.out.2.1.cells;clear ho3 hg3))
           all_goals
             refine NoPanic.normal ?_
             have HU4:=Lib.hid (HU3.out.go (b:=c2))
             go_wp2
             go_roundw
             case rel=>exact ⟨q',c2,T ++ [X],by go_num,hc2s,by rw [List.length_append];have:=HTQ.out;have:=HQ.out;simp;omega,(fun x hx=>by rcases List.mem_append.1 hx with hx | hx;exact HTS.out x hx;rw [List.mem_singleton.1 hx];exact HXS.out),HUN2.out,HU4.out⟩
             case measure=>have:=HQB.out;simp [intOf];omega
         · have HRES:Hid (unbF s.data.toList=.inl (e,(c:Int))):=Lib.hid (unb_text HL.out H1.out H2.out H3N.out (by rw [HB.out,HUN.out,HQ.out,unT_bad hg he]))
           have HG:=Lib.hid hg
           have hne:((e:Int) != 0)=true:=by simp;omega
           clear hg
           go_wp2_with fail
           refine (runspan_bad (s.extract c s.size) n2 e wr (Nat.le_trans ext_le (by have:=HS6.out;omega)) (ext_dropV s c) HG.out).mono ?_
           rintro r w' ⟨⟨X,rfl⟩,rfl⟩
           go_wp2_with fail
           refine (throw_any e (c:Int) _).mono ?_
           rintro r w' ⟨rfl,rfl⟩
           exact udoor_bad e (c:Int) HUT.out.1 he HRES.out _ rfl rfl
       · obtain rfl:q=0:=by omega
         have HUT4:Hid (unT s.data.toList k1 (n + m + j1) []=.inr (c,T)):=Lib.hid (by rw [HB.out,HUN.out];rfl)
         have hnt60:nt≤60:=by have:=HTQ.out;have:=HNT.out;omega
         clear HUN hq
         rcases intL_cases (s.data.toList.drop c) 60 with ⟨e,h5,he,_⟩ | ⟨k2,j2,h5,hk2,_,hj10,hj2l,_⟩
         · have HRES:Hid (unbF s.data.toList=.inl (e,(c:Int))):=Lib.hid (unb_writes HL.out H1.out H2.out H3N.out HUT4.out h5 he)
           have H5:=Lib.hid h5
           clear h5
           go_wp2_with fail
           refine (next_bad R s c e 60 wr HUT.out.2.1 HS6.out hc (by decide) (by decide) H5.out he).mono ?_
           rintro r w2 ⟨rfl,hg2⟩
           exact udoor_bad e (c:Int) (HUT.out.1.kept hg2 (fun k hk=>by injection hk with hk;have:=HUT.out.2.2.2.1;omega)) he HRES.out _ rfl rfl
         rw [List.length_drop,HSL.out] at hj2l
         obtain ⟨b2,hb2⟩:∃ b2,c + j2=b2:=⟨_,rfl⟩
         have hb2s:b2≤s.size:=by omega
         have H5:=Lib.hid h5
         have HJ2:=Lib.hid hj10
         have HB2E:=Lib.hid hb2
         clear h5 hb2 hj2l hj10 s0 s1 sz sl d3 d4
         go_wp2_with fail
         refine (next_ok R s c k2 j2 60 wr HUT.out.2.1 HS6.out hc (by decide) (by decide) H5.out HJ2.out).mono ?_
         rintro r w2 ⟨rfl,hs2,hg2⟩
         rw [HB2E.out] at hs2
         have hu5:=HUT.out.next hs2 hg2
         obtain ⟨af,cf,rfl,_⟩:=hu5.2.2.1.1.is.form
         obtain ⟨ah,ch,rfl,_⟩:=hu5.2.2.1.2.1.is.form
         obtain ⟨nf,hnf⟩:∃ nf,nf=f.length:=⟨_,rfl⟩
         obtain ⟨nh,hnh⟩:∃ nh,nh=h.length:=⟨_,rfl⟩
         rw [←hnf,←hnh] at hu5
         have hnh16:nh≤16:=by rw [hnh];exact HRH.out.1
         have HNF:=Lib.hid hnf
         have HNH:=Lib.hid hnh
         have HU5:=Lib.hid hu5
         clear hs2 hg2 HUT hc hu5 hnf hnh
         go_wp2
         go_loopw [15,16,17] (fun nv tv kv wr=>∃ (q c:Nat) (A:Int) (W:List Wr) (N:List Nat) (vw:Value),kv=.int .i64 q∧tv=.int .i64 A∧(0≤A∧A≤1099511627776)∧c≤s.size∧(W.length + q=k2∧N.length=W.length)∧unW s.data.toList h T k2 b2 0 [] []=unW s.data.toList h T q c A W N∧US w R s c (.slice af nf cf) (.slice ah nh ch) (.slice at_ nt ct) nv vw f h T N W wr) (fun _ _ kv _=>(intOf kv).toNat)
         case atStart=>exact ⟨k2,b2,0,[],[],.slice none 0 0,rfl,rfl,⟨Int.le_refl _,by decide⟩,hb2s,⟨by simp,rfl⟩,rfl,HU5.out⟩
         case round =>
           obtain ⟨q,c3,A,W,N,vw,rfl,rfl,⟨hA0,hA1⟩,hc3,⟨hWq,hNl⟩,huw,us⟩:=hrel
           obtain ⟨an,cn,rfl,_,_⟩:=us.2.2.1.2.2.2.1.isNums
           obtain ⟨aw,cw,rfl,_⟩:=us.2.2.1.2.2.2.2.is.form
           obtain ⟨nw,hnw⟩:∃ nw,nw=W.length:=⟨_,rfl⟩
           rw [List.length_map,hNl,←hnw] at us ⊢
           have HUS:=Lib.hid us
           have HUW:=Lib.hid huw
           have HNW:=Lib.hid hnw
           have HNL:Hid (N.length=nw):=Lib.hid (by rw [hNl,hnw])
           have HWQ:Hid (nw + q=k2∧k2≤60):=Lib.hid ⟨by rw [hnw];exact hWq,by omega⟩
           clear us huw hnw hNl hWq HU5
           obtain ⟨s0,s1,sz,sl⟩:=HUS.out.2.1.cells
           by_cases hq:0 < q
           · obtain ⟨q',hq'⟩:∃ q',q=q' + 1:=⟨q - 1,by omega⟩
             have HQ:=Lib.hid hq'
             have hq60:q≤60:=by have:=HWQ.out;omega
             have hq0:(0:Int) < (q:Int):=by omega
             have hq1:IntKind.i64.wrap ((q:Int) - 1)=(q':Int):=by rw [show (q:Int) - 1=(q':Int) by omega];exact IntWalk.i64_in _ (by omega)
             have hq2:IntKind.i64.wrap (q':Int)=(q':Int):=IntWalk.i64_in _ (by omega)
             have HQB:Hid (q' < q∧q≤60):=Lib.hid (by omega)
             have HWR:Hid (∀ {x p:Nat},unOne s.data.toList h T c3 A=.inl (x,p)→unbF s.data.toList=.inl (x,(p:Int))):=Lib.hid (fun hx=>unb_write HL.out H1.out H2.out H3N.out HUT4.out H5.out (by rw [HB2E.out,HUW.out,HQ.out,unW_bad hx]))
             clear hq'
             by_cases hend:c3=s.size
             · have HRES:Hid (unbF s.data.toList=.inl (7,(s.size:Int))):=Lib.hid (by rw [←hend];exact HWR.out (unOne_kind (e:=7) (K:=0) (j:=0) (by rw [List.drop_of_length_le (by rw [HSL.out];omega)];rfl) (by decide)))
               have hbe:((c3:Int) == (s.size:Int))=true:=by simp;omega
               go_wp2_with fail
               refine (throw_any 7 (s.size:Int) _).mono ?_
               rintro r w' ⟨rfl,rfl⟩
               exact udoor_bad 7 (s.size:Int) HUS.out.1 (by decide) HRES.out _ rfl rfl
             have hlt:c3 < s.size:=by omega
             have hbe:((c3:Int) == (s.size:Int))=false:=by simp;omega
             have hlt2:(c3:Int) < (s.size:Int):=by omega
             have hge0:(0:Int)≤(c3:Int):=by omega
             obtain ⟨x,hx⟩:∃ x,s[c3]=x:=⟨_,rfl⟩
             have hdrop:s.data.toList.drop c3=x :: s.data.toList.drop (c3 + 1):=by
               have h2:c3 < s.data.toList.length:=by rw [HSL.out];exact hlt
               have h3:=List.drop_eq_getElem_cons h2
               have h4 : s.data.toList[c3]'h2 = x := hx
               rw [h4] at h3
               exact h3
             obtain ⟨K,hK⟩:∃ K:Int,(x.toNat:Int)=K:=⟨_,rfl⟩
             have hK0:0≤K:=by omega
             have hK1:K≤255:=by have:=x.toNat_lt;omega
             have hkw:IntKind.i64.wrap K=K:=IntWalk.i64_in _ (by omega)
             have HDR:=Lib.hid hdrop
             have HKK:=Lib.hid hK
             clear hdrop
             obtain ⟨X,hX⟩:∃ X,wr.heap.size=X:=⟨_,rfl⟩
             have HUA:=Lib.hid (HUS.out.alloc (.cells #[.int .i64 0,.int .i64 0,.int .i64 K,.string ⟨#[]⟩,.string ⟨#[]⟩,.int .i64 0] 59))
             have HXA:Hid ((wr.alloc (.cells #[.int .i64 0,.int .i64 0,.int .i64 K,.string ⟨#[]⟩,.string ⟨#[]⟩,.int .i64 0] 59)).heap[X]? = some (.cells #[.int .i64 0,.int .i64 0,.int .i64 K,.string ⟨#[]⟩,.string ⟨#[]⟩,.int .i64 0] 59 (0,0))):=Lib.hid (by rw [←hX];exact heap_alloc_new wr _)
             have HXR:Hid (R + 2≤X):=Lib.hid (by rw [←hX];exact HUS.out.2.2.2.2)
             have HVX:Hid ((Value.slice aw nw cw).ownBlock≠some X):=Lib.hid (fun e=>by have:=(World.ownsRow.lt HUS.out.2.2.1.2.2.2.2 X e).2;omega)
             by_cases hkb:x.toNat < 1∨4 < x.toNat
             · have HRES:=Lib.hid (HWR.out (unOne_kind (e:=1) (K:=0) (j:=0) (by rw [HDR.out];exact if_pos hkb) (by decide)))
               have HW1:Hid (∀ w:World,Calls Tryz.prog 78 #[.int .i64 K,.int .i64 1,.int .i64 4] w fun e w'=>e=.returned (.bool false)∧w=w'):=Lib.hid (fun w=>by
                 by_cases h1:K < 1
                 · exact within_low K 1 4 w h1
                 · exact within_high K 1 4 w (by omega) (by omega))
               rw [hX] at *
               go_wp2_with fail
               refine (HW1.out _).mono ?_
               rintro r w' ⟨rfl,rfl⟩
               obtain ⟨y0,y1,yz,yl⟩:=HUA.out.2.1.cells
               go_wp2_with fail
               refine (throw_any 1 (c3:Int) _).mono ?_
               rintro r w' ⟨rfl,rfl⟩
               exact udoor_bad 1 (c3:Int) HUA.out.1 (by decide) HRES.out _ rfl rfl
             have hkg1:1≤K:=by omega
             have hkg2:K≤4:=by omega
             have HKF:Hid (kindF (s.data.toList.drop c3)=(x.toNat,1,0)):=Lib.hid (by rw [HDR.out];exact if_neg hkb)
             obtain ⟨c4,hc4e⟩:∃ c4,c4=c3 + 1:=⟨_,rfl⟩
             have hc4:c4≤s.size:=by omega
             have HC4:=Lib.hid hc4e
             have kw4:IntKind.i64.wrap ((c3:Int) + 1)=(c4:Int):=by rw [show (c3:Int) + 1=(c4:Int) by omega];exact IntWalk.i64_in _ (by omega)
             clear hc4e hkb
             obtain ⟨t,k1t,e,ht⟩:∃ t k e,intL (s.data.toList.drop c4) (1099511627776 - A)=(t,k,e):=⟨_,_,_,rfl⟩
             have HT0:Hid (intL (s.data.toList.drop (c3 + 1)) (1099511627776 - A)=(t,k1t,e)):=Lib.hid (by rw [←HC4.out];exact ht)
             have HTC:=Lib.hid (intL_time hA0 hA1 ht)
             clear ht
             go_wp2_with fail
             refine (within_yes K 1 4 _ hkg1 hkg2).mono ?_
             rintro r w' ⟨rfl,rfl⟩
             generalize wr.alloc (.cells #[.int .i64 0,.int .i64 0,.int .i64 K,.string ⟨#[]⟩,.string ⟨#[]⟩,.int .i64 0] 59)=w5 at HUA HXA ⊢
             clear hX s0 s1 sz sl hx
             obtain ⟨s0,s1,sz,sl⟩:=HUA.out.2.1.cells
             have HU6:=Lib.hid (HUA.out.go (b:=c4))
             have HX6:=Lib.hid (row_setCell (R:=R) (o:=1) HXA.out (by have:=HXR.out;omega) (.int .i64 (c4:Int)))
             rcases HTC.out with ⟨rfl,hi,hle⟩ | ⟨hne,t',k',hi⟩ | ⟨rfl,t',k',hi,hgt⟩
             rotate_left
             · have HI:=Lib.hid (intL_zero hi hne)
               have HRES:Hid (unbF s.data.toList=.inl (e,(c4:Int))):=Lib.hid (by rw [HC4.out];exact HWR.out (unOne_time HKF.out HT0.out hne))
               clear hi HTC
               go_wp2_with fail
               refine (next_bad R s c4 e 1099511627776 _ HU6.out.2.1 HS6.out hc4 (by decide) (by decide) HI.out hne).mono ?_
               rintro r w7 ⟨rfl,hg7⟩
               exact udoor_bad e (c4:Int) (HU6.out.1.kept hg7 (fun k hk=>by injection hk with hk;have:=HU6.out.2.2.2.1;omega)) hne HRES.out _ rfl rfl
             · obtain ⟨ht1,hkl,hk10⟩:=intL_le hi
               have HI:=Lib.hid hi
               have HK10:=Lib.hid hk10
               have HRES:Hid (unbF s.data.toList=.inl (2,(c4:Int))):=Lib.hid (by rw [HC4.out];exact HWR.out (unOne_time HKF.out HT0.out (by decide)))
               obtain ⟨AT,hAT⟩:∃ AT:Int,A + (t':Int)=AT:=⟨_,rfl⟩
               have hgt2:1099511627776 < AT:=by omega
               have kwA:IntKind.i64.wrap AT=AT:=IntWalk.i64_in _ (by omega)
               clear hi hgt hkl hk10 HTC
               go_wp2_with fail
               refine (next_ok R s c4 t' k' 1099511627776 _ HU6.out.2.1 HS6.out hc4 (by decide) (by decide) HI.out HK10.out).mono ?_
               rintro r w7 ⟨rfl,hs7,hg7⟩
               have HU7:=Lib.hid (HU6.out.next hs7 hg7)
               clear hs7 hg7
               go_wp2_with fail
               refine (throw_any 2 (c4:Int) _).mono ?_
               rintro r w' ⟨rfl,rfl⟩
               exact udoor_bad 2 (c4:Int) HU7.out.1 (by decide) HRES.out _ rfl rfl
             obtain ⟨ht1,hkl,hk10⟩:=intL_le hi
             rw [List.length_drop,HSL.out] at hkl
             obtain ⟨A2,hA2⟩:∃ A2:Int,A + (t:Int)=A2:=⟨_,rfl⟩
             have hA20:0≤A2:=by omega
             have hA21:A2≤1099511627776:=by omega
             have kwA:IntKind.i64.wrap A2=A2:=IntWalk.i64_in _ (by omega)
             obtain ⟨c5,hc5e⟩:∃ c5,c4 + k1t=c5:=⟨_,rfl⟩
             have hc5:c5≤s.size:=by omega
             have HI:=Lib.hid hi
             have HK10:=Lib.hid hk10
             have HC5:=Lib.hid hc5e
             have HA2:=Lib.hid hA2
             clear hi hle hkl hk10 hc5e HTC
             go_wp2_with fail
             refine (next_ok R s c4 t k1t 1099511627776 _ HU6.out.2.1 HS6.out hc4 (by decide) (by decide) HI.out HK10.out).mono ?_
             rintro r w9 ⟨rfl,hs9,hg9⟩
             rw [HC5.out] at hs9
             have HU9:=Lib.hid (HU6.out.next hs9 hg9)
             have HX9:=Lib.hid ((hg9.block X (Array.getElem?_eq_some_iff.1 HX6.out).1 (by have:=HXR.out;simp;omega)).trans HX6.out)
             clear hs9 hg9 s0 s1 sz sl HU6 HX6 HUA HXA hge0 hlt2 hlt hend hbe
             have HU9d:=Lib.hid HU9.out.drew
             have HX9d:Hid (w9.drew.heap[X]? = some (.cells #[.int .i64 0,.int .i64 0,.int .i64 K,.string ⟨#[]⟩,.string ⟨#[]⟩,.int .i64 0] 59 (0,0))):=Lib.hid HX9.out
             obtain ⟨⟨_,b1,_⟩,_⟩:=HU9.out.1.cells
             have kwh:IntKind.i64.wrap ((nh:Int) - 1)=(nh:Int) - 1:=IntWalk.i64_in _ (by omega)
             have kwt:IntKind.i64.wrap ((nt:Int) - 1)=(nt:Int) - 1:=IntWalk.i64_in _ (by omega)
             rcases intL_cases (s.data.toList.drop c5) ((nh:Int) - 1) with ⟨e,h6,he,_⟩ | ⟨p,k2r,h6,hp,_,hk2r,hk2l,_⟩
             · have H6:=Lib.hid h6
               have HRES:Hid (unbF s.data.toList=.inl (e,(c5:Int))):=Lib.hid (by
                 have h:=HWR.out (unOne_rep HKF.out HT0.out (p:=0) (k2:=0) (e:=e) (by rw [show c3 + 1 + k1t=c5 by have:=HC4.out;have:=HC5.out;omega,←HNH.out];exact h6) he)
                 rw [h,show c3 + 1 + k1t=c5 by have:=HC4.out;have:=HC5.out;omega])
               clear h6
               go_wp2
               refine wp_region_keep (i:=2) (j:=3) (u:=.pointer (some ⟨w.heap.size,0,none⟩)) (v:=.pointer (some ⟨w.heap.size + 1,0,none⟩)) ?_
               refine wp_region_held_drew (S:=(fun w'=>w'.cell? ⟨w.heap.size,1,none⟩=some (.slice ah nh ch))) (by kernel_rfl) b1 (fun hHeld=>?_)
               generalize w9.drew=W9 at HU9d hHeld ⊢
               refine wpAnyH_take (i:=0) (v:=?v0n) rfl (by kernel_rfl) (by kernel_rfl) (by kernel_rfl) (KeepQ.put (by decide) (by decide)) (Or.inl ⟨by rfl,?h0n⟩) (by assumption) ?r0n
               case h0n=>(intro W hSw;(try dsimp only at hSw);go_simp;all_goals (with_reducible rfl))
               try simp only [Act.put,List.getElem_toArray,List.getElem_cons_zero,List.setIfInBounds_toArray,List.set_cons_zero,List.set_cons_succ]
               refine wpAnyH_take (i:=1) (v:=?v1n) rfl (by kernel_rfl) (by kernel_rfl) (by kernel_rfl) (KeepQ.put (by decide) (by decide)) (Or.inl ⟨by rfl,?h1n⟩) (by assumption) ?r1n
               case h1n=>(intro W hSw;(try dsimp only at hSw);go_simp;all_goals (with_reducible rfl))
               try simp only [Act.put,List.getElem_toArray,List.getElem_cons_zero,List.getElem_cons_succ,List.setIfInBounds_toArray,List.set_cons_zero,List.set_cons_succ]
               refine wpAnyH_take (i:=2) (v:=?v2n) rfl (by kernel_rfl) (by kernel_rfl) (by kernel_rfl) (KeepQ.put (by decide) (by decide)) (Or.inl ⟨by rfl,?h2n⟩) (by assumption) ?r2n
               case h2n=>(intro W hSw;(try dsimp only at hSw);go_simp;all_goals (with_reducible rfl))
               try simp only [Act.put,List.getElem_toArray,List.getElem_cons_zero,List.getElem_cons_succ,List.setIfInBounds_toArray,List.set_cons_zero,List.set_cons_succ]
               refine wpAnyH_take (i:=3) (v:=?v3n) rfl (by kernel_rfl) (by kernel_rfl) (by kernel_rfl) (KeepQ.put (by decide) (by decide)) (Or.inl ⟨by rfl,?h3n⟩) (by assumption) ?r3n
               case h3n=>(intro W hSw;(try dsimp only at hSw);go_simp;all_goals (with_reducible rfl))
               try simp only [Act.put,List.getElem_toArray,List.getElem_cons_zero,List.getElem_cons_succ,List.setIfInBounds_toArray,List.set_cons_zero,List.set_cons_succ]
               refine wpAnyH_take (i:=4) (v:=?v4n) rfl (by kernel_rfl) (by kernel_rfl) (by kernel_rfl) (KeepQ.put (by decide) (by decide)) (Or.inl ⟨by rfl,?h4n⟩) (by assumption) ?r4n
               case h4n=>(intro W hSw;(try dsimp only at hSw);go_simp;all_goals (with_reducible rfl))
               try simp only [Act.put,List.getElem_toArray,List.getElem_cons_zero,List.getElem_cons_succ,List.setIfInBounds_toArray,List.set_cons_zero,List.set_cons_succ]
               refine wpAnyH_take (i:=5) (v:=?v5n) rfl (by kernel_rfl) (by kernel_rfl) (by kernel_rfl) (KeepQ.put (by decide) (by decide)) (Or.inl ⟨by rfl,?h5n⟩) (by assumption) ?r5n
               case h5n=>(intro W hSw;(try dsimp only at hSw);go_simp;all_goals (with_reducible rfl))
               try simp only [Act.put,List.getElem_toArray,List.getElem_cons_zero,List.getElem_cons_succ,List.setIfInBounds_toArray,List.set_cons_zero,List.set_cons_succ]
               refine wpAnyH_take (i:=6) (v:=?v6n) rfl (by kernel_rfl) (by kernel_rfl) (by kernel_rfl) (KeepQ.put (by decide) (by decide)) (Or.inl ⟨by rfl,?h6n⟩) (by assumption) ?r6n
               case h6n=>(intro W hSw;(try dsimp only at hSw);go_simp;all_goals (with_reducible rfl))
               try simp only [Act.put,List.getElem_toArray,List.getElem_cons_zero,List.getElem_cons_succ,List.setIfInBounds_toArray,List.set_cons_zero,List.set_cons_succ]
               refine wpAnyH_take (i:=7) (v:=?v7n) rfl (by kernel_rfl) (by kernel_rfl) (by kernel_rfl) (KeepQ.put (by decide) (by decide)) (Or.inl ⟨by rfl,?h7n⟩) (by assumption) ?r7n
               case h7n=>(intro W hSw;(try dsimp only at hSw);go_simp;all_goals (with_reducible rfl))
               try simp only [Act.put,List.getElem_toArray,List.getElem_cons_zero,List.getElem_cons_succ,List.setIfInBounds_toArray,List.set_cons_zero,List.set_cons_succ]
               refine wpAnyH_ready (rs:=[8]) (by kernel_rfl) (by simp) ?_
               refine AllReadyH.cons rfl (fun KK hKK=>?_) AllReadyH.nil
               go_simp
               refine (nextN_bad R s c5 e (((nh:Nat):Int) - 1) W9 HU9d.out.2.1 HS6.out hc5 (by omega) (by omega) H6.out he).mono ?_
               rintro r w10 ⟨rfl,hg10⟩
               have HU10:=Lib.hid (HU9d.out.1.kept hg10 (fun k hk=>by injection hk with hk;have:=HU9d.out.2.2.2.1;omega))
               refine ⟨⟨rfl,rfl⟩,fun a' e1 e2 e3=>?_⟩
               obtain ⟨tm,df⟩:=a'
               dsimp only at e1 e2 e3
               subst e3
               exact udoor_bad e (c5:Int) HU10.out he HRES.out tm e1 e2
             rw [List.length_drop,HSL.out] at hk2l
             obtain ⟨c6,hc6e⟩:∃ c6,c5 + k2r=c6:=⟨_,rfl⟩
             have hc6:c6≤s.size:=by omega
             have hpn:(p:Int) < (nh:Int):=by omega
             obtain ⟨ent, hent⟩ : ∃ ent, h[p]? = some ent := ⟨h[p]'(by have := HNH.out; omega), List.getElem?_eq_getElem _⟩
             obtain ⟨a9,cc9,e9,f9⟩:=HU9.out.2.2.1.2.1.is.form
             obtain ⟨bh,oh,e9b,_,_,_⟩:=f9 p ent hent
             injection e9 with e91 e92 e93
             rw [e9b] at e91
             subst e91
             obtain ⟨rep,tm⟩:=ent
             have H6:=Lib.hid h6
             have HK2:=Lib.hid hk2r
             have HC6:=Lib.hid hc6e
             have HENT:=Lib.hid hent
             have HSF:Hid (∀ {c':Nat} (W':World),US w R s c' (.slice af nf cf) (.slice (some ⟨bh,oh,none⟩) nh ch) (.slice at_ nt ct) (.slice an nw cn) (.slice aw nw cw) f h T N W W'→(W'.cell? ⟨w.heap.size,1,none⟩=some (.slice (some ⟨bh,oh,none⟩) nh ch)∧W'.cell? ⟨bh,oh + p * 2,none⟩=some (.int .i64 rep))):=Lib.hid (fun W' u=>⟨u.1.cells.1.2.1,ents_at u.2.2.1.2.1.is HENT.out⟩)
             have HP1:Hid (intL (s.data.toList.drop (c3 + 1 + k1t)) ((h.length:Int) - 1)=(p,k2r,0)):=Lib.hid (by rw [show c3 + 1 + k1t=c5 by have:=HC4.out;have:=HC5.out;omega,←HNH.out];exact h6)
             clear h6 hk2r hk2l hc6e hent f9 e92 e93 e9b b1
             go_wp2
             refine wp_region_noPanic ?_
             refine wp_region_held_drew (S:=(fun w'=>w'.cell? ⟨w.heap.size,1,none⟩=some (.slice (some ⟨bh,oh,none⟩) nh ch)∧w'.cell? ⟨bh,oh + p * 2,none⟩=some (.int .i64 rep))) (by kernel_rfl) (HSF.out _ HU9d.out) (fun hHeld=>?_)
             generalize w9.drew=W9 at HU9d HX9d hHeld ⊢
             refine wpAnyH_take (i:=0) (v:=?v0g) rfl (by kernel_rfl) (by kernel_rfl) (by kernel_rfl) (fun _ _ _ h=>h) (Or.inl ⟨by rfl,?h0g⟩) (by assumption) ?r0g
             case h0g=>(intro W hSw;(try dsimp only at hSw);go_simp;all_goals (with_reducible rfl))
             try simp only [Act.put,List.getElem_toArray,List.getElem_cons_zero,List.setIfInBounds_toArray,List.set_cons_zero,List.set_cons_succ]
             refine wpAnyH_take (i:=1) (v:=?v1g) rfl (by kernel_rfl) (by kernel_rfl) (by kernel_rfl) (fun _ _ _ h=>h) (Or.inl ⟨by rfl,?h1g⟩) (by assumption) ?r1g
             case h1g=>(intro W hSw;(try dsimp only at hSw);go_simp;all_goals (with_reducible rfl))
             try simp only [Act.put,List.getElem_toArray,List.getElem_cons_zero,List.getElem_cons_succ,List.setIfInBounds_toArray,List.set_cons_zero,List.set_cons_succ]
             refine wpAnyH_take (i:=2) (v:=?v2g) rfl (by kernel_rfl) (by kernel_rfl) (by kernel_rfl) (fun _ _ _ h=>h) (Or.inl ⟨by rfl,?h2g⟩) (by assumption) ?r2g
             case h2g=>(intro W hSw;(try dsimp only at hSw);go_simp;all_goals (with_reducible rfl))
             try simp only [Act.put,List.getElem_toArray,List.getElem_cons_zero,List.getElem_cons_succ,List.setIfInBounds_toArray,List.set_cons_zero,List.set_cons_succ]
             refine wpAnyH_take (i:=3) (v:=?v3g) rfl (by kernel_rfl) (by kernel_rfl) (by kernel_rfl) (fun _ _ _ h=>h) (Or.inl ⟨by rfl,?h3g⟩) (by assumption) ?r3g
             case h3g=>(intro W hSw;(try dsimp only at hSw);go_simp;all_goals (with_reducible rfl))
             try simp only [Act.put,List.getElem_toArray,List.getElem_cons_zero,List.getElem_cons_succ,List.setIfInBounds_toArray,List.set_cons_zero,List.set_cons_succ]
             refine wpAnyH_take (i:=4) (v:=?v4g) rfl (by kernel_rfl) (by kernel_rfl) (by kernel_rfl) (fun _ _ _ h=>h) (Or.inl ⟨by rfl,?h4g⟩) (by assumption) ?r4g
             case h4g=>(intro W hSw;(try dsimp only at hSw);go_simp;all_goals (with_reducible rfl))
             try simp only [Act.put,List.getElem_toArray,List.getElem_cons_zero,List.getElem_cons_succ,List.setIfInBounds_toArray,List.set_cons_zero,List.set_cons_succ]
             refine wpAnyH_take (i:=5) (v:=?v5g) rfl (by kernel_rfl) (by kernel_rfl) (by kernel_rfl) (fun _ _ _ h=>h) (Or.inl ⟨by rfl,?h5g⟩) (by assumption) ?r5g
             case h5g=>(intro W hSw;(try dsimp only at hSw);go_simp;all_goals (with_reducible rfl))
             try simp only [Act.put,List.getElem_toArray,List.getElem_cons_zero,List.getElem_cons_succ,List.setIfInBounds_toArray,List.set_cons_zero,List.set_cons_succ]
             refine wpAnyH_take (i:=6) (v:=?v6g) rfl (by kernel_rfl) (by kernel_rfl) (by kernel_rfl) (fun _ _ _ h=>h) (Or.inl ⟨by rfl,?h6g⟩) (by assumption) ?r6g
             case h6g=>(intro W hSw;(try dsimp only at hSw);go_simp;all_goals (with_reducible rfl))
             try simp only [Act.put,List.getElem_toArray,List.getElem_cons_zero,List.getElem_cons_succ,List.setIfInBounds_toArray,List.set_cons_zero,List.set_cons_succ]
             refine wpAnyH_take (i:=7) (v:=?v7g) rfl (by kernel_rfl) (by kernel_rfl) (by kernel_rfl) (fun _ _ _ h=>h) (Or.inl ⟨by rfl,?h7g⟩) (by assumption) ?r7g
             case h7g=>(intro W hSw;(try dsimp only at hSw);go_simp;all_goals (with_reducible rfl))
             try simp only [Act.put,List.getElem_toArray,List.getElem_cons_zero,List.getElem_cons_succ,List.setIfInBounds_toArray,List.set_cons_zero,List.set_cons_succ]
             refine wpAnyH_ready (rs:=[8]) (by kernel_rfl) (by simp) ?_
             refine AllReadyH.cons rfl (fun KK hKK=>?_) AllReadyH.nil
             go_simp
             refine (nextN_ok R s c5 p k2r (((nh:Nat):Int) - 1) W9 HU9d.out.2.1 HS6.out hc5 (by omega) (by omega) H6.out HK2.out).mono ?_
             rintro r w10 ⟨rfl,hs10,hg10⟩
             rw [HC6.out] at hs10
             have HU10:=Lib.hid (HU9d.out.next hs10 hg10)
             have HX10:Hid (w10.heap[X]? = some (.cells #[.int .i64 0,.int .i64 0,.int .i64 K,.string ⟨#[]⟩,.string ⟨#[]⟩,.int .i64 0] 59 (0,0))):=Lib.hid ((hg10.block X (Array.getElem?_eq_some_iff.1 HX9d.out).1 (by have:=HXR.out;simp;omega)).trans HX9d.out)
             clear hs10 hg10
             refine hKK.out _ _ (HSF.out _ HU10.out) (fun hHeld2=>?_)
             clear hKK hHeld
             try simp only [Act.put,List.getElem_toArray,List.getElem_cons_zero,List.getElem_cons_succ,List.setIfInBounds_toArray,List.set_cons_zero,List.set_cons_succ]
             refine wpAnyH_take (i:=9) (v:=?v9g) rfl (by kernel_rfl) (by kernel_rfl) (by kernel_rfl) (fun _ _ _ h=>h) (Or.inl ⟨by rfl,?h9g⟩) (by assumption) ?r9g
             case h9g=>(intro W hSw;(try dsimp only at hSw);go_simp;all_goals (with_reducible rfl))
             try simp only [Act.put,List.getElem_toArray,List.getElem_cons_zero,List.getElem_cons_succ,List.setIfInBounds_toArray,List.set_cons_zero,List.set_cons_succ]
             refine wpAnyH_take (i:=10) (v:=?v10g) rfl (by kernel_rfl) (by kernel_rfl) (by kernel_rfl) (fun _ _ _ h=>h) (Or.inl ⟨by rfl,?h10g⟩) (by assumption) ?r10g
             case h10g=>(intro W hSw;(try dsimp only at hSw);go_simp;all_goals (with_reducible rfl))
             try simp only [Act.put,List.getElem_toArray,List.getElem_cons_zero,List.getElem_cons_succ,List.setIfInBounds_toArray,List.set_cons_zero,List.set_cons_succ]
             refine wpAnyH_take (i:=11) (v:=?v11g) rfl (by kernel_rfl) (by kernel_rfl) (by kernel_rfl) (fun _ _ _ h=>h) (Or.inl ⟨by rfl,?h11g⟩) (by assumption) ?r11g
             case h11g=>(intro W hSw;(try dsimp only at hSw);go_simp;all_goals (with_reducible rfl))
             try simp only [Act.put,List.getElem_toArray,List.getElem_cons_zero,List.getElem_cons_succ,List.setIfInBounds_toArray,List.set_cons_zero,List.set_cons_succ]
             refine wpAnyH_take (i:=12) (v:=?v12g) rfl (by kernel_rfl) (by kernel_rfl) (by kernel_rfl) (fun _ _ _ h=>h) (Or.inl ⟨by rfl,?h12g⟩) (by assumption) ?r12g
             case h12g=>(intro W hSw;(try dsimp only at hSw);go_simp;all_goals (with_reducible rfl))
             try simp only [Act.put,List.getElem_toArray,List.getElem_cons_zero,List.getElem_cons_succ,List.setIfInBounds_toArray,List.set_cons_zero,List.set_cons_succ]
             refine wpAnyH_take (i:=13) (v:=?v13g) rfl (by kernel_rfl) (by kernel_rfl) (by kernel_rfl) (fun _ _ _ h=>h) (Or.inl ⟨by rfl,?h13g⟩) (by assumption) ?r13g
             case h13g=>(intro W hSw;(try dsimp only at hSw);go_simp;all_goals (with_reducible rfl))
             try simp only [Act.put,List.getElem_toArray,List.getElem_cons_zero,List.getElem_cons_succ,List.setIfInBounds_toArray,List.set_cons_zero,List.set_cons_succ]
             obtain ⟨x0,x1,_,_,_,_⟩:=row_at HX10.out
             obtain ⟨v0,v1,_,_,_,_⟩:=free_row HX10.out
             have HU11:=Lib.hid ((HU10.out.store (o:=0) (x:=.int .i64 A2) HX10.out HXR.out HVX.out).store (o:=1) (x:=.int .i64 rep) (heap_setCell_same _ X 0 _ _ _ HX10.out) HXR.out HVX.out)
             have HX11:Hid (((w10.setCell ⟨X,0,none⟩ (.int .i64 A2)).setCell ⟨X,1,none⟩ (.int .i64 rep)).heap[X]? = some (.cells #[.int .i64 A2,.int .i64 rep,.int .i64 K,.string ⟨#[]⟩,.string ⟨#[]⟩,.int .i64 0] 59 (0,0))):=Lib.hid (heap_setCell_same _ X 1 _ _ _ (heap_setCell_same _ X 0 _ _ _ HX10.out))
             refine wpAnyH_ready (rs:=[14]) (by kernel_rfl) (by simp) ?_
             refine AllReadyH.cons rfl (fun KK hKK=>?_) AllReadyH.nil
             go_simp
             refine hKK.out _ _ (HSF.out _ HU11.out) (fun hHeld3=>?_)
             clear hKK hHeld2 x0 x1 v0 v1
             try simp only [Act.put,List.getElem_toArray,List.getElem_cons_zero,List.getElem_cons_succ,List.setIfInBounds_toArray,List.set_cons_zero,List.set_cons_succ]
             refine wpAnyH_done (by kernel_rfl) ?_ _
             refine NoPanic.normal ?_
             clear hHeld3
             generalize (w10.setCell ⟨X,0,none⟩ (.int .i64 A2)).setCell ⟨X,1,none⟩ (.int .i64 rep)=w11 at HU11 HX11 ⊢
             clear HU10 HX10 HU9d HX9d
             rcases intL_cases (s.data.toList.drop c6) ((nt:Int) - 1) with ⟨e,h7,he,_⟩ | ⟨nn,k3n,h7,hnn,_,hk3n,hk3l,_⟩
             · have H7:=Lib.hid h7
               have HRES:Hid (unbF s.data.toList=.inl (e,(c6:Int))):=Lib.hid (by
                 have h:=HWR.out (unOne_key HKF.out HT0.out HP1.out (n:=0) (k3:=0) (e:=e) (by rw [show c3 + 1 + k1t + k2r=c6 by have:=HC4.out;have:=HC5.out;have:=HC6.out;omega,←HNT.out];exact h7) he)
                 rw [h,show c3 + 1 + k1t + k2r=c6 by have:=HC4.out;have:=HC5.out;have:=HC6.out;omega])
               clear h7
               go_wp2_with fail
               refine (nextN_bad R s c6 e ((nt:Int) - 1) w11 HU11.out.2.1 HS6.out hc6 (by omega) (by omega) H7.out he).mono ?_
               rintro r w12 ⟨rfl,hg12⟩
               exact udoor_bad e (c6:Int) (HU11.out.1.kept hg12 (fun k hk=>by injection hk with hk;have:=HU11.out.2.2.2.1;omega)) he HRES.out _ rfl rfl
             rw [List.length_drop,HSL.out] at hk3l
             obtain ⟨c7,hc7e⟩:∃ c7,c6 + k3n=c7:=⟨_,rfl⟩
             have hc7:c7≤s.size:=by omega
             have hnnt:(nn:Int) < (nt:Int):=by omega
             obtain ⟨key, hkey⟩ : ∃ key, T[nn]? = some key := ⟨T[nn]'(by have := HNT.out; omega), List.getElem?_eq_getElem _⟩
             obtain ⟨a9,cc9,e9,_,f9⟩:=HU11.out.2.2.1.2.2.1.isTexts
             obtain ⟨bt,ot,e9b,_,_⟩:=f9 nn key hkey
             injection e9 with e91 e92 e93
             rw [e9b] at e91
             subst e91
             have H7:=Lib.hid h7
             have HK3:=Lib.hid hk3n
             have HC7:=Lib.hid hc7e
             have HKEY:=Lib.hid hkey
             have HKS:Hid (key.size≤140737488351232):=Lib.hid (Nat.le_trans (HTS.out key (List.mem_of_getElem? hkey)) (by decide))
             have HN1:Hid (intL (s.data.toList.drop (c3 + 1 + k1t + k2r)) ((T.length:Int) - 1)=(nn,k3n,0)):=Lib.hid (by rw [show c3 + 1 + k1t + k2r=c6 by have:=HC4.out;have:=HC5.out;have:=HC6.out;omega,←HNT.out];exact h7)
             have HST:Hid (∀ (vn':Value) (N':List Nat) (c':Nat) (W':World),US w R s c' (.slice af nf cf) (.slice (some ⟨bh,oh,none⟩) nh ch) (.slice (some ⟨bt,ot,none⟩) nt ct) vn' (.slice aw nw cw) f h T N' W W'→W'.cell? ⟨bt,ot + nn,none⟩=some (.string key)):=Lib.hid (fun _ _ _ W' u=>texts_at u.2.2.1.2.2.1.isTexts HKEY.out)
             clear h7 hk3n hk3l hc7e hkey f9 e92 e93 e9b
             go_wp2_with fail
             refine (nextN_ok R s c6 nn k3n ((nt:Int) - 1) w11 HU11.out.2.1 HS6.out hc6 (by omega) (by omega) H7.out HK3.out).mono ?_
             rintro r w13 ⟨rfl,hs13,hg13⟩
             rw [HC7.out] at hs13
             have HU13:=Lib.hid (HU11.out.next hs13 hg13)
             have HX13:=Lib.hid ((hg13.block X (Array.getElem?_eq_some_iff.1 HX11.out).1 (by have:=HXR.out;simp;omega)).trans HX11.out)
             clear hs13 hg13 HU11 HX11
             have HU13d:=Lib.hid HU13.out.drew
             have HX13d:Hid (w13.drew.heap[X]? = some (.cells #[.int .i64 A2,.int .i64 rep,.int .i64 K,.string ⟨#[]⟩,.string ⟨#[]⟩,.int .i64 0] 59 (0,0))):=Lib.hid HX13.out
             have HNS:Hid (N.length + 1≤8796093022208):=Lib.hid (by have:=HNL.out;have:=HWQ.out;omega)
             have HNN1:Hid (N.length + 1=nw + 1):=Lib.hid (by rw [HNL.out])
             go_wp2
             refine wp_region_noPanic ?_
             refine wp_region_held_drew (S:=(fun w'=>w'.cell? ⟨bt,ot + nn,none⟩=some (.string key))) (by kernel_rfl) (HST.out _ _ _ _ HU13d.out) (fun hHeld=>?_)
             generalize w13.drew=W13 at HU13d HX13d hHeld ⊢
             refine wpAnyH_take (i:=0) (v:=?v0k) rfl (by kernel_rfl) (by kernel_rfl) (by kernel_rfl) (fun _ _ _ h=>h) (Or.inl ⟨by rfl,?h0k⟩) (by assumption) ?r0k
             case h0k=>(intro W hSw;(try dsimp only at hSw);go_simp;all_goals (with_reducible rfl))
             try simp only [Act.put,List.getElem_toArray,List.getElem_cons_zero,List.setIfInBounds_toArray,List.set_cons_zero,List.set_cons_succ]
             refine wpAnyH_take (i:=1) (v:=?v1k) rfl (by kernel_rfl) (by kernel_rfl) (by kernel_rfl) (fun _ _ _ h=>h) (Or.inl ⟨by rfl,?h1k⟩) (by assumption) ?r1k
             case h1k=>(intro W hSw;(try dsimp only at hSw);go_simp;all_goals (with_reducible rfl))
             try simp only [Act.put,List.getElem_toArray,List.getElem_cons_zero,List.getElem_cons_succ,List.setIfInBounds_toArray,List.set_cons_zero,List.set_cons_succ]
             refine wpAnyH_take (i:=4) (v:=?v4k) rfl (by kernel_rfl) (by kernel_rfl) (by kernel_rfl) (fun _ _ _ h=>h) (Or.inl ⟨by rfl,?h4k⟩) (by assumption) ?r4k
             case h4k=>(intro W hSw;(try dsimp only at hSw);go_simp;all_goals (with_reducible rfl))
             try simp only [Act.put,List.getElem_toArray,List.getElem_cons_zero,List.getElem_cons_succ,List.setIfInBounds_toArray,List.set_cons_zero,List.set_cons_succ]
             refine wpAnyH_take (i:=5) (v:=?v5k) rfl (by kernel_rfl) (by kernel_rfl) (by kernel_rfl) (fun _ _ _ h=>h) (Or.inl ⟨by rfl,?h5k⟩) (by assumption) ?r5k
             case h5k=>(intro W hSw;(try dsimp only at hSw);go_simp;all_goals (with_reducible rfl))
             try simp only [Act.put,List.getElem_toArray,List.getElem_cons_zero,List.getElem_cons_succ,List.setIfInBounds_toArray,List.set_cons_zero,List.set_cons_succ]
             refine wpAnyH_take (i:=6) (v:=?v6k) rfl (by kernel_rfl) (by kernel_rfl) (by kernel_rfl) (fun _ _ _ h=>h) (Or.inl ⟨by rfl,?h6k⟩) (by assumption) ?r6k
             case h6k=>(intro W hSw;(try dsimp only at hSw);go_simp;all_goals (with_reducible rfl))
             try simp only [Act.put,List.getElem_toArray,List.getElem_cons_zero,List.getElem_cons_succ,List.setIfInBounds_toArray,List.set_cons_zero,List.set_cons_succ]
             refine wpAnyH_take (i:=7) (v:=?v7k) rfl (by kernel_rfl) (by kernel_rfl) (by kernel_rfl) (fun _ _ _ h=>h) (Or.inl ⟨by rfl,?h7k⟩) (by assumption) ?r7k
             case h7k=>(intro W hSw;(try dsimp only at hSw);go_simp;all_goals (with_reducible rfl))
             try simp only [Act.put,List.getElem_toArray,List.getElem_cons_zero,List.getElem_cons_succ,List.setIfInBounds_toArray,List.set_cons_zero,List.set_cons_succ]
             refine wpAnyH_ready (rs:=[2]) (by kernel_rfl) (by simp) ?_
             refine AllReadyH.cons rfl (fun KK hKK=>?_) AllReadyH.nil
             go_simp
             refine hKK.out _ _ (HST.out _ _ _ _ (HU13d.out.alloc _)) (fun hHeld2=>?_)
             clear hKK hHeld
             try simp only [Act.put,List.getElem_toArray,List.getElem_cons_zero,List.getElem_cons_succ,List.setIfInBounds_toArray,List.set_cons_zero,List.set_cons_succ]
             have HUB:=Lib.hid (HU13d.out.alloc (.cells #[.int .i64 (nn:Int)] 3))
             have HXB:Hid ((W13.alloc (.cells #[.int .i64 (nn:Int)] 3)).heap[X]? = _):=Lib.hid ((Below.heap_alloc _ _ _ (Array.getElem?_eq_some_iff.1 HX13d.out).1).trans HX13d.out)
             have HLB:Hid ((W13.alloc (.cells #[.int .i64 (nn:Int)] 3)).cell? ⟨W13.heap.size,0,none⟩=some (.int .i64 (nn:Int))):=Lib.hid (cell_at rfl)
             generalize W13.alloc (.cells #[.int .i64 (nn:Int)] 3)=WB at HUB HXB HLB hHeld2 ⊢
             generalize W13.heap.size=bl at HLB ⊢
             refine wpAnyH_ready (rs:=[3]) (by kernel_rfl) (by simp) ?_
             refine AllReadyH.cons rfl (fun KK hKK=>?_) AllReadyH.nil
             refine step_append_num WB rfl _ _ rfl (R + 2) _ N rfl HUB.out.2.2.1.2.2.2.1 ⟨bl,0,none⟩ 1 rfl nn (by simpa [Addr.add] using HLB.out) HNS.out HUB.out.2.2.2.2 ?_
             intro g cap w14 ho14 hg14
             rw [HNN1.out] at ho14
             rw [HNN1.out]
             have HU14:=Lib.hid (HUB.out.numbers ho14 hg14)
             have HX14:Hid (w14.heap[X]? = _):=Lib.hid ((hg14.block X (Array.getElem?_eq_some_iff.1 HXB.out).1 (fun e=>own_noU HUB.out.2.2.1.2.2.2.1 HXB.out (by decide) e.symm)).trans HXB.out)
             clear ho14 hg14
             refine hKK.out _ _ (HST.out _ _ _ _ HU14.out) (fun hHeld3=>?_)
             clear hKK hHeld2
             try simp only [Act.put,List.getElem_toArray,List.getElem_cons_zero,List.getElem_cons_succ,List.setIfInBounds_toArray,List.set_cons_zero,List.set_cons_succ]
             refine wpAnyH_take (i:=8) (v:=?v8k) rfl (by kernel_rfl) (by kernel_rfl) (by kernel_rfl) (fun _ _ _ h=>h) (Or.inl ⟨by rfl,?h8k⟩) (by assumption) ?r8k
             case h8k=>(intro W hSw;(try dsimp only at hSw);go_simp;all_goals (with_reducible rfl))
             try simp only [Act.put,List.getElem_toArray,List.getElem_cons_zero,List.getElem_cons_succ,List.setIfInBounds_toArray,List.set_cons_zero,List.set_cons_succ]
             refine wpAnyH_take (i:=9) (v:=?v9k) rfl (by kernel_rfl) (by kernel_rfl) (by kernel_rfl) (fun _ _ _ h=>h) (Or.inl ⟨by rfl,?h9k⟩) (by assumption) ?r9k
             case h9k=>(intro W hSw;(try dsimp only at hSw);go_simp;all_goals (with_reducible rfl))
             try simp only [Act.put,List.getElem_toArray,List.getElem_cons_zero,List.getElem_cons_succ,List.setIfInBounds_toArray,List.set_cons_zero,List.set_cons_succ]
             obtain ⟨_,_,_,x3,_,_⟩:=row_at HX14.out
             obtain ⟨_,_,_,v3,_,_⟩:=free_row HX14.out
             have HU15:=Lib.hid (HU14.out.store (o:=3) (x:=.string key) HX14.out HXR.out HVX.out)
             have HX15:Hid ((w14.setCell ⟨X,3,none⟩ (.string key)).heap[X]? = some (.cells #[.int .i64 A2,.int .i64 rep,.int .i64 K,.string key,.string ⟨#[]⟩,.int .i64 0] 59 (0,0))):=Lib.hid (heap_setCell_same _ X 3 _ _ _ HX14.out)
             refine wpAnyH_ready (rs:=[10]) (by kernel_rfl) (by simp) ?_
             refine AllReadyH.cons rfl (fun KK hKK=>?_) AllReadyH.nil
             go_simp
             refine hKK.out _ _ (HST.out _ _ _ _ HU15.out) (fun hHeld4=>?_)
             clear hKK hHeld3 x3 v3
             try simp only [Act.put,List.getElem_toArray,List.getElem_cons_zero,List.getElem_cons_succ,List.setIfInBounds_toArray,List.set_cons_zero,List.set_cons_succ]
             refine wpAnyH_done (by kernel_rfl) ?_ _
             refine NoPanic.normal ?_
             clear hHeld4
             generalize w14.setCell ⟨X,3,none⟩ (.string key)=w15 at HU15 HX15 ⊢
             clear HU14 HX14 HUB HXB HLB HU13d HX13d
             obtain ⟨e,hF⟩:∃ e,fillE A2 rep K key (s.data.toList.drop c7)=e:=⟨_,rfl⟩
             have HPOS:Hid (c3 + 1 + k1t + k2r + k3n=c7):=Lib.hid (by have:=HC4.out;have:=HC5.out;have:=HC6.out;have:=HC7.out;omega)
             have HFU:Hid (fillE (A + (t:Int)) (h.getD p ⟨0,0⟩).rep (x.toNat:Int) (T.getD nn ⟨#[]⟩) (s.data.toList.drop (c3 + 1 + k1t + k2r + k3n))=e):=Lib.hid (by rw [HA2.out,HKK.out,HPOS.out,List.getD_eq_getElem?_getD,HENT.out,List.getD_eq_getElem?_getD,HKEY.out];exact hF)
             have HF0:Hid (fillE A2 rep K key (s.extract c7 s.size).data.toList=e):=Lib.hid (by rw [ext_dropV];exact hF)
             have HSX:Hid ((s.extract c7 s.size).size≤140737488351232):=Lib.hid (Nat.le_trans ext_le (by have:=HS6.out;omega))
             have d7:(0:Int)≤(c7:Int):=by omega
             have d8:(c7:Int)≤(s.size:Int):=by omega
             have HU15d:=Lib.hid HU15.out.drew
             have HX15d:Hid (w15.drew.heap[X]? = some (.cells #[.int .i64 A2,.int .i64 rep,.int .i64 K,.string key,.string ⟨#[]⟩,.int .i64 0] 59 (0,0))):=Lib.hid HX15.out
             by_cases he:e=0
             rotate_left
             · have HRES : Hid (unbF s.data.toList = .inl (e, (c7 : Int))) := Lib.hid (by
                 have h:=HWR.out (unOne_fill HKF.out HT0.out HP1.out HN1.out HFU.out he)
                 rw [h,HPOS.out])
               have hne:((e:Int) != 0)=true:=by simp;omega
               clear hF
               go_wp2
               refine wp_region_noPanic ?_
               refine wp_region_held_drew (S:=(fun w'=>w'.cell? ⟨R,1,none⟩=some (.int .i64 (c7:Int)))) (by kernel_rfl) HU15d.out.2.1.cells.2.1 (fun hHeld=>?_)
               generalize w15.drew=W15 at HU15d HX15d hHeld ⊢
               refine wpAnyH_take (i:=1) (v:=?v1z) rfl (by kernel_rfl) (by kernel_rfl) (by kernel_rfl) (fun _ _ _ h=>h) (Or.inl ⟨by rfl,?h1z⟩) (by assumption) ?r1z
               case h1z=>(intro W hSw;(try dsimp only at hSw);go_simp;all_goals (with_reducible rfl))
               try simp only [Act.put,List.getElem_toArray,List.getElem_cons_zero,List.getElem_cons_succ,List.setIfInBounds_toArray,List.set_cons_zero,List.set_cons_succ]
               refine wpAnyH_take (i:=2) (v:=?v2z) rfl (by kernel_rfl) (by kernel_rfl) (by kernel_rfl) (fun _ _ _ h=>h) (Or.inl ⟨by rfl,?h2z⟩) (by assumption) ?r2z
               case h2z=>(intro W hSw;(try dsimp only at hSw);go_simp;all_goals (with_reducible rfl))
               try simp only [Act.put,List.getElem_toArray,List.getElem_cons_zero,List.getElem_cons_succ,List.setIfInBounds_toArray,List.set_cons_zero,List.set_cons_succ]
               refine wpAnyH_take (i:=3) (v:=?v3z) rfl (by kernel_rfl) (by kernel_rfl) (by kernel_rfl) (fun _ _ _ h=>h) (Or.inl ⟨by rfl,?h3z⟩) (by assumption) ?r3z
               case h3z=>(intro W hSw;(try dsimp only at hSw);go_simp;all_goals (with_reducible rfl))
               try simp only [Act.put,List.getElem_toArray,List.getElem_cons_zero,List.getElem_cons_succ,List.setIfInBounds_toArray,List.set_cons_zero,List.set_cons_succ]
               refine wpAnyH_take (i:=4) (v:=?v4z) rfl (by kernel_rfl) (by kernel_rfl) (by kernel_rfl) (fun _ _ _ h=>h) (Or.inl ⟨by rfl,?h4z⟩) (by assumption) ?r4z
               case h4z=>(intro W hSw;(try dsimp only at hSw);go_simp;all_goals (with_reducible rfl))
               try simp only [Act.put,List.getElem_toArray,List.getElem_cons_zero,List.getElem_cons_succ,List.setIfInBounds_toArray,List.set_cons_zero,List.set_cons_succ]
               refine wpAnyH_take (i:=5) (v:=?v5z) rfl (by kernel_rfl) (by kernel_rfl) (by kernel_rfl) (fun _ _ _ h=>h) (Or.inl ⟨by rfl,?h5z⟩) (by assumption) ?r5z
               case h5z=>(intro W hSw;(try dsimp only at hSw);go_simp;all_goals (with_reducible rfl))
               try simp only [Act.put,List.getElem_toArray,List.getElem_cons_zero,List.getElem_cons_succ,List.setIfInBounds_toArray,List.set_cons_zero,List.set_cons_succ]
               refine wpAnyH_take (i:=6) (v:=?v6z) rfl (by kernel_rfl) (by kernel_rfl) (by kernel_rfl) (fun _ _ _ h=>h) (Or.inl ⟨by rfl,?h6z⟩) (by assumption) ?r6z
               case h6z=>(intro W hSw;(try dsimp only at hSw);go_simp;all_goals (with_reducible rfl))
               try simp only [Act.put,List.getElem_toArray,List.getElem_cons_zero,List.getElem_cons_succ,List.setIfInBounds_toArray,List.set_cons_zero,List.set_cons_succ]
               obtain ⟨x0,x1,x2,x3,x4,x5⟩:=row_at HX15d.out
               refine wpAnyH_ready (rs:=[0]) (by kernel_rfl) (by simp) ?_
               refine AllReadyH.cons rfl (fun KK hKK=>?_) AllReadyH.nil
               go_simp
               refine hKK.out _ _ HU15d.out.2.1.cells.2.1 (fun hHeld2=>?_)
               clear hKK hHeld x0 x1 x2 x3 x4 x5
               try simp only [Act.put,List.getElem_toArray,List.getElem_cons_zero,List.getElem_cons_succ,List.setIfInBounds_toArray,List.set_cons_zero,List.set_cons_succ]
               refine wpAnyH_ready (rs:=[7]) (by kernel_rfl) (by simp) ?_
               refine AllReadyH.cons rfl (fun KK hKK=>?_) AllReadyH.nil
               go_simp
               refine (rfill_bad A2 rep K key (s.extract c7 s.size) e W15 HKS.out HSX.out HF0.out he).mono ?_
               rintro r w16 ⟨rfl,hb16⟩
               have HU16:=Lib.hid (HU15d.out.below hb16)
               have HX16:=Lib.hid ((hb16.block X (Array.getElem?_eq_some_iff.1 HX15d.out).1).trans HX15d.out)
               clear hb16
               refine hKK.out _ _ HU16.out.2.1.cells.2.1 (fun hHeld3=>?_)
               clear hKK hHeld2
               try simp only [Act.put,List.getElem_toArray,List.getElem_cons_zero,List.getElem_cons_succ,List.setIfInBounds_toArray,List.set_cons_zero,List.set_cons_succ]
               refine wpAnyH_take (i:=8) (v:=?v8z) rfl (by kernel_rfl) (by kernel_rfl) (by kernel_rfl) (fun _ _ _ h=>h) (Or.inl ⟨by rfl,?h8z⟩) (by assumption) ?r8z
               case h8z=>(intro W hSw;(try dsimp only at hSw);go_simp;all_goals (with_reducible rfl))
               try simp only [Act.put,List.getElem_toArray,List.getElem_cons_zero,List.getElem_cons_succ,List.setIfInBounds_toArray,List.set_cons_zero,List.set_cons_succ]
               refine wpAnyH_take (i:=9) (v:=?v9z) rfl (by kernel_rfl) (by kernel_rfl) (by kernel_rfl) (fun _ _ _ h=>h) (Or.inl ⟨by rfl,?h9z⟩) (by assumption) ?r9z
               case h9z=>(intro W hSw;(try dsimp only at hSw);go_simp;all_goals (with_reducible rfl))
               try simp only [Act.put,List.getElem_toArray,List.getElem_cons_zero,List.getElem_cons_succ,List.setIfInBounds_toArray,List.set_cons_zero,List.set_cons_succ]
               refine wpAnyH_take (i:=10) (v:=?v10z) rfl (by kernel_rfl) (by kernel_rfl) (by kernel_rfl) (fun _ _ _ h=>h) (Or.inl ⟨by rfl,?h10z⟩) (by assumption) ?r10z
               case h10z=>(intro W hSw;(try dsimp only at hSw);go_simp;all_goals (with_reducible rfl))
               try simp only [Act.put,List.getElem_toArray,List.getElem_cons_zero,List.getElem_cons_succ,List.setIfInBounds_toArray,List.set_cons_zero,List.set_cons_succ]
               refine wpAnyH_take (i:=11) (v:=?v11z) rfl (by kernel_rfl) (by kernel_rfl) (by kernel_rfl) (fun _ _ _ h=>h) (Or.inl ⟨by rfl,?h11z⟩) (by assumption) ?r11z
               case h11z=>(intro W hSw;(try dsimp only at hSw);go_simp;all_goals (with_reducible rfl))
               try simp only [Act.put,List.getElem_toArray,List.getElem_cons_zero,List.getElem_cons_succ,List.setIfInBounds_toArray,List.set_cons_zero,List.set_cons_succ]
               obtain ⟨x0,x1,x2,x3,x4,x5⟩:=row_at HX16.out
               obtain ⟨v0,v1,v2,v3,v4,v5⟩:=free_row HX16.out
               have HU17:=Lib.hid ((((((HU16.out.store (o:=0) (x:=.int .i64 0) HX16.out HXR.out HVX.out).store (o:=1) (x:=.int .i64 0) (heap_setCell_same _ X 0 _ _ _ HX16.out) HXR.out HVX.out).store (o:=2) (x:=.int .i64 0) (heap_setCell_same _ X 1 _ _ _ (heap_setCell_same _ X 0 _ _ _ HX16.out)) HXR.out HVX.out).store (o:=3) (x:=.string ⟨#[]⟩) (heap_setCell_same _ X 2 _ _ _ (heap_setCell_same _ X 1 _ _ _ (heap_setCell_same _ X 0 _ _ _ HX16.out))) HXR.out HVX.out).store (o:=4) (x:=.string ⟨#[]⟩) (heap_setCell_same _ X 3 _ _ _ (heap_setCell_same _ X 2 _ _ _ (heap_setCell_same _ X 1 _ _ _ (heap_setCell_same _ X 0 _ _ _ HX16.out)))) HXR.out HVX.out).store (o:=5) (x:=.int .i64 0) (heap_setCell_same _ X 4 _ _ _ (heap_setCell_same _ X 3 _ _ _ (heap_setCell_same _ X 2 _ _ _ (heap_setCell_same _ X 1 _ _ _ (heap_setCell_same _ X 0 _ _ _ HX16.out))))) HXR.out HVX.out)
               have HX17:Hid (((((((w16.setCell ⟨X,0,none⟩ (.int .i64 0)).setCell ⟨X,1,none⟩ (.int .i64 0)).setCell ⟨X,2,none⟩ (.int .i64 0)).setCell ⟨X,3,none⟩ (.string ⟨#[]⟩)).setCell ⟨X,4,none⟩ (.string ⟨#[]⟩)).setCell ⟨X,5,none⟩ (.int .i64 0)).heap[X]? = some (.cells #[.int .i64 0,.int .i64 0,.int .i64 0,.string ⟨#[]⟩,.string ⟨#[]⟩,.int .i64 0] 59 (0,0))):=Lib.hid (heap_setCell_same _ X 5 _ _ _ (heap_setCell_same _ X 4 _ _ _ (heap_setCell_same _ X 3 _ _ _ (heap_setCell_same _ X 2 _ _ _ (heap_setCell_same _ X 1 _ _ _ (heap_setCell_same _ X 0 _ _ _ HX16.out))))))
               refine wpAnyH_ready (rs:=[12]) (by kernel_rfl) (by simp) ?_
               refine AllReadyH.cons rfl (fun KK hKK=>?_) AllReadyH.nil
               go_simp
               refine hKK.out _ _ HU17.out.2.1.cells.2.1 (fun hHeld4=>?_)
               clear hKK hHeld3 x0 x1 x2 x3 x4 x5 v0 v1 v2 v3 v4 v5
               try simp only [Act.put,List.getElem_toArray,List.getElem_cons_zero,List.getElem_cons_succ,List.setIfInBounds_toArray,List.set_cons_zero,List.set_cons_succ]
               refine wpAnyH_take (i:=13) (v:=?v13z) rfl (by kernel_rfl) (by kernel_rfl) (by kernel_rfl) (fun _ _ _ h=>h) (Or.inl ⟨by rfl,?h13z⟩) (by assumption) ?r13z
               case h13z=>(intro W hSw;(try dsimp only at hSw);go_simp;all_goals (with_reducible rfl))
               try simp only [Act.put,List.getElem_toArray,List.getElem_cons_zero,List.getElem_cons_succ,List.setIfInBounds_toArray,List.set_cons_zero,List.set_cons_succ]
               refine wpAnyH_take (i:=14) (v:=?v14z) rfl (by kernel_rfl) (by kernel_rfl) (by kernel_rfl) (fun _ _ _ h=>h) (Or.inl ⟨by rfl,?h14z⟩) (by assumption) ?r14z
               case h14z=>(intro W hSw;(try dsimp only at hSw);go_simp;all_goals (with_reducible rfl))
               try simp only [Act.put,List.getElem_toArray,List.getElem_cons_zero,List.getElem_cons_succ,List.setIfInBounds_toArray,List.set_cons_zero,List.set_cons_succ]
               refine wpAnyH_done (by kernel_rfl) ?_ _
               refine NoPanic.normal ?_
               clear hHeld4
               generalize ((((((w16.setCell ⟨X,0,none⟩ (.int .i64 0)).setCell ⟨X,1,none⟩ (.int .i64 0)).setCell ⟨X,2,none⟩ (.int .i64 0)).setCell ⟨X,3,none⟩ (.string ⟨#[]⟩)).setCell ⟨X,4,none⟩ (.string ⟨#[]⟩)).setCell ⟨X,5,none⟩ (.int .i64 0))=w17 at HU17 HX17 ⊢
               clear HU16 HX16 HU15d HX15d
               obtain ⟨s0,s1,sz,sl⟩:=HU17.out.2.1.cells
               go_wp2_with fail
               refine (throw_any e (c7:Int) _).mono ?_
               rintro r w' ⟨rfl,rfl⟩
               exact udoor_bad e (c7:Int) HU17.out.1 he HRES.out _ rfl rfl
             subst he
             obtain ⟨V5,hV5⟩:∃ V,fillV K (s.data.toList.drop c7)=V:=⟨_,rfl⟩
             obtain ⟨N5,hN5⟩:∃ N,(getN K (s.data.toList.drop c7)).1=N:=⟨_,rfl⟩
             obtain ⟨k5,hk5⟩:∃ k,fillN K (s.data.toList.drop c7)=k:=⟨_,rfl⟩
             have hfl:=(fill_only hF).2.2
             rw [hk5,List.length_drop,HSL.out] at hfl
             obtain ⟨c8,hc8e⟩:∃ c8,c7 + k5=c8:=⟨_,rfl⟩
             have hc8:c8≤s.size:=by omega
             have kw8:IntKind.i64.wrap ((c7:Int) + (k5:Int))=(c8:Int):=by rw [show (c7:Int) + (k5:Int)=(c8:Int) by omega];exact IntWalk.i64_in _ (by omega)
             have HFV:Hid (fillV K (s.extract c7 s.size).data.toList=V5):=Lib.hid (by rw [ext_dropV];exact hV5)
             have HFN:Hid ((getN K (s.extract c7 s.size).data.toList).1=N5):=Lib.hid (by rw [ext_dropV];exact hN5)
             have HFK:Hid (fillN K (s.extract c7 s.size).data.toList=k5):=Lib.hid (by rw [ext_dropV];exact hk5)
             have HUO:Hid (unOne s.data.toList h T c3 A=.inr (c8,⟨A2,rep,K,key,V5,N5⟩,nn)):=Lib.hid (by
               rw [unOne_ok HKF.out HT0.out HP1.out HN1.out HFU.out,HPOS.out,HA2.out,HKK.out,hV5,hN5,hk5,hc8e,List.getD_eq_getElem?_getD,HENT.out,List.getD_eq_getElem?_getD,HKEY.out];rfl)
             have HUW2:Hid (unW s.data.toList h T k2 b2 0 [] []=unW s.data.toList h T q' c8 A2 (W ++ [⟨A2,rep,K,key,V5,N5⟩]) (N ++ [nn])):=Lib.hid (by rw [HUW.out,HQ.out,unW_ok HUO.out])
             clear hF hV5 hN5 hk5 hfl hc8e HFU HWR
             have hz:((0:Int) != 0)=false:=rfl
             go_wp2
             refine wp_region_noPanic ?_
             refine wp_region_held_drew (S:=(fun w'=>w'.cell? ⟨R,1,none⟩=some (.int .i64 (c7:Int)))) (by kernel_rfl) HU15d.out.2.1.cells.2.1 (fun hHeld=>?_)
             generalize w15.drew=W15 at HU15d HX15d hHeld ⊢
             refine wpAnyH_take (i:=1) (v:=?v1y) rfl (by kernel_rfl) (by kernel_rfl) (by kernel_rfl) (fun _ _ _ h=>h) (Or.inl ⟨by rfl,?h1y⟩) (by assumption) ?r1y
             case h1y=>(intro W hSw;(try dsimp only at hSw);go_simp;all_goals (with_reducible rfl))
             try simp only [Act.put,List.getElem_toArray,List.getElem_cons_zero,List.getElem_cons_succ,List.setIfInBounds_toArray,List.set_cons_zero,List.set_cons_succ]
             refine wpAnyH_take (i:=2) (v:=?v2y) rfl (by kernel_rfl) (by kernel_rfl) (by kernel_rfl) (fun _ _ _ h=>h) (Or.inl ⟨by rfl,?h2y⟩) (by assumption) ?r2y
             case h2y=>(intro W hSw;(try dsimp only at hSw);go_simp;all_goals (with_reducible rfl))
             try simp only [Act.put,List.getElem_toArray,List.getElem_cons_zero,List.getElem_cons_succ,List.setIfInBounds_toArray,List.set_cons_zero,List.set_cons_succ]
             refine wpAnyH_take (i:=3) (v:=?v3y) rfl (by kernel_rfl) (by kernel_rfl) (by kernel_rfl) (fun _ _ _ h=>h) (Or.inl ⟨by rfl,?h3y⟩) (by assumption) ?r3y
             case h3y=>(intro W hSw;(try dsimp only at hSw);go_simp;all_goals (with_reducible rfl))
             try simp only [Act.put,List.getElem_toArray,List.getElem_cons_zero,List.getElem_cons_succ,List.setIfInBounds_toArray,List.set_cons_zero,List.set_cons_succ]
             refine wpAnyH_take (i:=4) (v:=?v4y) rfl (by kernel_rfl) (by kernel_rfl) (by kernel_rfl) (fun _ _ _ h=>h) (Or.inl ⟨by rfl,?h4y⟩) (by assumption) ?r4y
             case h4y=>(intro W hSw;(try dsimp only at hSw);go_simp;all_goals (with_reducible rfl))
             try simp only [Act.put,List.getElem_toArray,List.getElem_cons_zero,List.getElem_cons_succ,List.setIfInBounds_toArray,List.set_cons_zero,List.set_cons_succ]
             refine wpAnyH_take (i:=5) (v:=?v5y) rfl (by kernel_rfl) (by kernel_rfl) (by kernel_rfl) (fun _ _ _ h=>h) (Or.inl ⟨by rfl,?h5y⟩) (by assumption) ?r5y
             case h5y=>(intro W hSw;(try dsimp only at hSw);go_simp;all_goals (with_reducible rfl))
             try simp only [Act.put,List.getElem_toArray,List.getElem_cons_zero,List.getElem_cons_succ,List.setIfInBounds_toArray,List.set_cons_zero,List.set_cons_succ]
             refine wpAnyH_take (i:=6) (v:=?v6y) rfl (by kernel_rfl) (by kernel_rfl) (by kernel_rfl) (fun _ _ _ h=>h) (Or.inl ⟨by rfl,?h6y⟩) (by assumption) ?r6y
             case h6y=>(intro W hSw;(try dsimp only at hSw);go_simp;all_goals (with_reducible rfl))
             try simp only [Act.put,List.getElem_toArray,List.getElem_cons_zero,List.getElem_cons_succ,List.setIfInBounds_toArray,List.set_cons_zero,List.set_cons_succ]
             obtain ⟨x0,x1,x2,x3,x4,x5⟩:=row_at HX15d.out
             refine wpAnyH_ready (rs:=[0]) (by kernel_rfl) (by simp) ?_
             refine AllReadyH.cons rfl (fun KK hKK=>?_) AllReadyH.nil
             go_simp
             refine hKK.out _ _ HU15d.out.2.1.cells.2.1 (fun hHeld2=>?_)
             clear hKK hHeld x0 x1 x2 x3 x4 x5
             try simp only [Act.put,List.getElem_toArray,List.getElem_cons_zero,List.getElem_cons_succ,List.setIfInBounds_toArray,List.set_cons_zero,List.set_cons_succ]
             refine wpAnyH_ready (rs:=[7]) (by kernel_rfl) (by simp) ?_
             refine AllReadyH.cons rfl (fun KK hKK=>?_) AllReadyH.nil
             go_simp
             refine (rfill_ok A2 rep K key (s.extract c7 s.size) V5 N5 k5 W15 HKS.out HSX.out HF0.out HFV.out HFN.out HFK.out).mono ?_
             rintro r w16 ⟨rfl,hb16⟩
             have HU16:=Lib.hid (HU15d.out.below hb16)
             have HX16:=Lib.hid ((hb16.block X (Array.getElem?_eq_some_iff.1 HX15d.out).1).trans HX15d.out)
             clear hb16
             refine hKK.out _ _ HU16.out.2.1.cells.2.1 (fun hHeld3=>?_)
             clear hKK hHeld2
             try simp only [Act.put,List.getElem_toArray,List.getElem_cons_zero,List.getElem_cons_succ,List.setIfInBounds_toArray,List.set_cons_zero,List.set_cons_succ]
             refine wpAnyH_take (i:=8) (v:=?v8y) rfl (by kernel_rfl) (by kernel_rfl) (by kernel_rfl) (fun _ _ _ h=>h) (Or.inl ⟨by rfl,?h8y⟩) (by assumption) ?r8y
             case h8y=>(intro W hSw;(try dsimp only at hSw);go_simp;all_goals (with_reducible rfl))
             try simp only [Act.put,List.getElem_toArray,List.getElem_cons_zero,List.getElem_cons_succ,List.setIfInBounds_toArray,List.set_cons_zero,List.set_cons_succ]
             refine wpAnyH_take (i:=9) (v:=?v9y) rfl (by kernel_rfl) (by kernel_rfl) (by kernel_rfl) (fun _ _ _ h=>h) (Or.inl ⟨by rfl,?h9y⟩) (by assumption) ?r9y
             case h9y=>(intro W hSw;(try dsimp only at hSw);go_simp;all_goals (with_reducible rfl))
             try simp only [Act.put,List.getElem_toArray,List.getElem_cons_zero,List.getElem_cons_succ,List.setIfInBounds_toArray,List.set_cons_zero,List.set_cons_succ]
             refine wpAnyH_take (i:=10) (v:=?v10y) rfl (by kernel_rfl) (by kernel_rfl) (by kernel_rfl) (fun _ _ _ h=>h) (Or.inl ⟨by rfl,?h10y⟩) (by assumption) ?r10y
             case h10y=>(intro W hSw;(try dsimp only at hSw);go_simp;all_goals (with_reducible rfl))
             try simp only [Act.put,List.getElem_toArray,List.getElem_cons_zero,List.getElem_cons_succ,List.setIfInBounds_toArray,List.set_cons_zero,List.set_cons_succ]
             refine wpAnyH_take (i:=11) (v:=?v11y) rfl (by kernel_rfl) (by kernel_rfl) (by kernel_rfl) (fun _ _ _ h=>h) (Or.inl ⟨by rfl,?h11y⟩) (by assumption) ?r11y
             case h11y=>(intro W hSw;(try dsimp only at hSw);go_simp;all_goals (with_reducible rfl))
             try simp only [Act.put,List.getElem_toArray,List.getElem_cons_zero,List.getElem_cons_succ,List.setIfInBounds_toArray,List.set_cons_zero,List.set_cons_succ]
             obtain ⟨x0,x1,x2,x3,x4,x5⟩:=row_at HX16.out
             obtain ⟨v0,v1,v2,v3,v4,v5⟩:=free_row HX16.out
             have HU17:=Lib.hid ((((((HU16.out.store (o:=0) (x:=.int .i64 A2) HX16.out HXR.out HVX.out).store (o:=1) (x:=.int .i64 rep) (heap_setCell_same _ X 0 _ _ _ HX16.out) HXR.out HVX.out).store (o:=2) (x:=.int .i64 K) (heap_setCell_same _ X 1 _ _ _ (heap_setCell_same _ X 0 _ _ _ HX16.out)) HXR.out HVX.out).store (o:=3) (x:=.string key) (heap_setCell_same _ X 2 _ _ _ (heap_setCell_same _ X 1 _ _ _ (heap_setCell_same _ X 0 _ _ _ HX16.out))) HXR.out HVX.out).store (o:=4) (x:=.string V5) (heap_setCell_same _ X 3 _ _ _ (heap_setCell_same _ X 2 _ _ _ (heap_setCell_same _ X 1 _ _ _ (heap_setCell_same _ X 0 _ _ _ HX16.out)))) HXR.out HVX.out).store (o:=5) (x:=.int .i64 N5) (heap_setCell_same _ X 4 _ _ _ (heap_setCell_same _ X 3 _ _ _ (heap_setCell_same _ X 2 _ _ _ (heap_setCell_same _ X 1 _ _ _ (heap_setCell_same _ X 0 _ _ _ HX16.out))))) HXR.out HVX.out)
             have HX17:Hid (((((((w16.setCell ⟨X,0,none⟩ (.int .i64 A2)).setCell ⟨X,1,none⟩ (.int .i64 rep)).setCell ⟨X,2,none⟩ (.int .i64 K)).setCell ⟨X,3,none⟩ (.string key)).setCell ⟨X,4,none⟩ (.string V5)).setCell ⟨X,5,none⟩ (.int .i64 N5)).heap[X]? = some (.cells #[.int .i64 A2,.int .i64 rep,.int .i64 K,.string key,.string V5,.int .i64 N5] 59 (0,0))):=Lib.hid (heap_setCell_same _ X 5 _ _ _ (heap_setCell_same _ X 4 _ _ _ (heap_setCell_same _ X 3 _ _ _ (heap_setCell_same _ X 2 _ _ _ (heap_setCell_same _ X 1 _ _ _ (heap_setCell_same _ X 0 _ _ _ HX16.out))))))
             refine wpAnyH_ready (rs:=[12]) (by kernel_rfl) (by simp) ?_
             refine AllReadyH.cons rfl (fun KK hKK=>?_) AllReadyH.nil
             go_simp
             refine hKK.out _ _ HU17.out.2.1.cells.2.1 (fun hHeld4=>?_)
             clear hKK hHeld3 x0 x1 x2 x3 x4 x5 v0 v1 v2 v3 v4 v5
             try simp only [Act.put,List.getElem_toArray,List.getElem_cons_zero,List.getElem_cons_succ,List.setIfInBounds_toArray,List.set_cons_zero,List.set_cons_succ]
             refine wpAnyH_take (i:=13) (v:=?v13y) rfl (by kernel_rfl) (by kernel_rfl) (by kernel_rfl) (fun _ _ _ h=>h) (Or.inl ⟨by rfl,?h13y⟩) (by assumption) ?r13y
             case h13y=>(intro W hSw;(try dsimp only at hSw);go_simp;all_goals (with_reducible rfl))
             try simp only [Act.put,List.getElem_toArray,List.getElem_cons_zero,List.getElem_cons_succ,List.setIfInBounds_toArray,List.set_cons_zero,List.set_cons_succ]
             refine wpAnyH_take (i:=14) (v:=?v14y) rfl (by kernel_rfl) (by kernel_rfl) (by kernel_rfl) (fun _ _ _ h=>h) (Or.inl ⟨by rfl,?h14y⟩) (by assumption) ?r14y
             case h14y=>(intro W hSw;(try dsimp only at hSw);go_simp;all_goals (with_reducible rfl))
             try simp only [Act.put,List.getElem_toArray,List.getElem_cons_zero,List.getElem_cons_succ,List.setIfInBounds_toArray,List.set_cons_zero,List.set_cons_succ]
             refine wpAnyH_done (by kernel_rfl) ?_ _
             refine NoPanic.normal ?_
             clear hHeld4
             generalize ((((((w16.setCell ⟨X,0,none⟩ (.int .i64 A2)).setCell ⟨X,1,none⟩ (.int .i64 rep)).setCell ⟨X,2,none⟩ (.int .i64 K)).setCell ⟨X,3,none⟩ (.string key)).setCell ⟨X,4,none⟩ (.string V5)).setCell ⟨X,5,none⟩ (.int .i64 N5))=w17 at HU17 HX17 ⊢
             clear HU16 HX16 HU15d HX15d
             obtain ⟨s0,s1,sz,sl⟩:=HU17.out.2.1.cells
             have HU18:=Lib.hid (HU17.out.go (b:=c8))
             have HX18:=Lib.hid (row_setCell (R:=R) (o:=1) HX17.out (by have:=HXR.out;omega) (.int .i64 (c8:Int)))
             obtain ⟨x0,x1,x2,x3,x4,x5⟩:=row_at HX18.out
             obtain ⟨⟨_,_,q2⟩,_⟩:=HU18.out.1.cells
             have HX19:Hid (wrBlk ((w17.setCell ⟨R,1,none⟩ (.int .i64 (c8:Int))).alloc (.cells #[.int .i64 A2,.int .i64 rep,.int .i64 K,.string key,.string V5,.int .i64 N5] 59)) w17.heap.size ⟨A2,rep,K,key,V5,N5⟩):=Lib.hid (by
               have h:=heap_alloc_new (w17.setCell ⟨R,1,none⟩ (.int .i64 (c8:Int))) (.cells #[.int .i64 A2,.int .i64 rep,.int .i64 K,.string key,.string V5,.int .i64 N5] 59)
               rw [World.size_setCell] at h
               exact h)
             have HU19:=Lib.hid (HU18.out.alloc (.cells #[.int .i64 A2,.int .i64 rep,.int .i64 K,.string key,.string V5,.int .i64 N5] 59))
             have HWS:Hid (W.length + 1≤1000000):=Lib.hid (by have:=HNW.out;have:=HWQ.out;omega)
             have HNW1:Hid (W.length + 1=nw + 1):=Lib.hid (by rw [HNW.out])
             clear HU17 HX17 HU15 HX15
             go_wp2_with (at_builtin;refine wpList_append_wr rfl _ _ rfl (R + 2) _ W rfl HU19.out.2.2.1.2.2.2.2 w17.heap.size 1 rfl ⟨A2,rep,K,key,V5,N5⟩ HX19.out HWS.out HU19.out.2.2.2.2 ?_)
             intro g2 cap2 w20 ho20 hg20
             rw [HNW1.out] at ho20 ⊢
             have HU20:=Lib.hid (HU19.out.writes ho20 hg20)
             have hud:=HU19.out.1.kept hg20 (fun k hk=>by have:=own_far HU19.out.2.2.1.2.2.2.2 k hk;have:=HU19.out.2.2.2.1;omega)
             clear x0 x1 x2 x3 x4 x5 q2 s0 s1 sz sl ho20 hg20
             obtain ⟨⟨_,_,q2⟩,_,⟨_,_,z2⟩,_⟩:=hud.cells
             clear hud
             go_wp2
             go_roundw
             case rel=>exact ⟨q',c8,A2,W ++ [⟨A2,rep,K,key,V5,N5⟩],N ++ [nn],_,by go_num,rfl,⟨hA20,hA21⟩,hc8,⟨by rw [List.length_append];have:=HNW.out;have:=HWQ.out;have:=HQ.out;simp;omega,by rw [List.length_append,List.length_append,HNL.out,HNW.out];rfl⟩,HUW2.out,HU20.out⟩
             case measure=>have:=HQB.out;simp [intOf];omega
           · obtain rfl:q=0:=by omega
             have HUW2:Hid (unW s.data.toList h T k2 (c + j2) 0 [] []=.inr (c3,W,N)):=Lib.hid (by rw [HB2E.out,HUW.out];rfl)
             obtain ⟨W1',N1',hWe,hNe,_,hrow,_,_,_⟩:=unW_only HRH.out k2 _ _ _ _ _ _ _ (by rw [HSL.out,HB2E.out];exact hb2s) HUW2.out
             rw [List.nil_append] at hWe hNe
             subst hWe
             subst hNe
             have HWO:Hid (∀ t∈W,WrOk t):=Lib.hid (fun t ht=>(wE_facts (okRow_all _ _ _ hrow t ht)).2.2.2.2.2.2.2.2.2)
             have HREST:=Lib.hid (unb_rest HL.out H1.out H2.out H3N.out HUT4.out H5.out HUW2.out)
             clear hrow HUW
             by_cases hcs2:c3 < s.size
             · have HRES:Hid (unbF s.data.toList=.inl (3,(c3:Int))):=Lib.hid (by rw [HREST.out,if_pos (by rw [HSL.out];exact hcs2)])
               have d2:(c3:Int) < (s.size:Int):=by omega
               go_wp2_with fail
               refine (throw_any 3 (c3:Int) _).mono ?_
               rintro r w' ⟨rfl,rfl⟩
               exact udoor_bad 3 (c3:Int) HUS.out.1 (by decide) HRES.out _ rfl rfl
             have hce:c3=s.size:=by omega
             subst hce
             have hrest2:unbF s.data.toList=if (listF T (N.map Int.ofNat)).2.1≠0 then .inl ((listF T (N.map Int.ofNat)).2.1,(s.size:Int)) else if (batF f h W).1≠0 then .inl ((batF f h W).1,(s.size:Int)) else .inr (f,h,W):=by
               rw [HREST.out,if_neg (by rw [HSL.out];omega),HSL.out]
             obtain ⟨lr,le,lp,hlf⟩:∃ lr le lp,listF T (N.map Int.ofNat)=(lr,le,lp):=⟨_,_,_,rfl⟩
             rw [hlf] at hrest2
             simp only at hrest2
             have HR2:=Lib.hid hrest2
             have HLF:=Lib.hid hlf
             clear hrest2 hlf HREST hcs2
             go_wp2_with fail
             refine (rlist_as _ _ T (N.map Int.ofNat) lr le lp wr HUS.out.2.2.1.2.2.1.isTexts HUS.out.2.2.1.2.2.2.1.isNums (by have:=HNT.out;omega) (by rw [List.length_map];have:=HNL.out;have:=HWQ.out;omega) HLF.out).mono ?_
             rintro r w8 ⟨al,nl,cl,rfl,hb8⟩
             have HU8:=Lib.hid ((HUS.out.below hb8).alloc (.cells #[.int .i64 (le:Int),.int .i64 lp] 46))
             have HG8:Hid (rowF (w8.alloc (.cells #[.int .i64 (le:Int),.int .i64 lp] 46)) w8.heap.size (le:Int) lp):=Lib.hid (heap_alloc_new w8 _)
             clear hb8 s0 s1 sz sl
             go_wp2_with fail
             refine (is_any (le:Int) lp _).mono ?_
             rintro r w9 ⟨rfl,hb9⟩
             have HU9:=Lib.hid (HU8.out.below hb9)
             have HG9:=Lib.hid (rowF.below HG8.out hb9 (by simp))
             clear hb9 HU8 HG8
             by_cases hle:le=0
             rotate_left
             · have HRES:Hid (unbF s.data.toList=.inl (le,(s.size:Int))):=Lib.hid (by rw [HR2.out,if_pos hle])
               have hne:((le:Int) == 0)=false:=by simp;omega
               rw [hne]
               obtain ⟨g0,g1⟩:=HG9.out.at
               go_wp2_with fail
               refine (throw_any le (s.size:Int) _).mono ?_
               rintro r w' ⟨rfl,rfl⟩
               exact udoor_bad le (s.size:Int) HU9.out.1 hle HRES.out _ rfl rfl
             subst hle
             rw [show (((0:Nat):Int) == 0)=true by rfl]
             have HBT:Hid (BatIs w9 (.slice af nf cf) (.slice ah nh ch) (.slice aw nw cw) f h W):=Lib.hid ⟨HU9.out.2.2.1.1.is,HU9.out.2.2.1.2.1.is,HU9.out.2.2.1.2.2.2.2.is,by have:=HRF.out.1;omega,by have:=HRH.out.1;omega,by have:=HNW.out;have:=HWQ.out;omega,HWO.out⟩
             obtain ⟨be,bp,hbf⟩:∃ be bp,batF f h W=(be,bp):=⟨_,_,rfl⟩
             have hr3:unbF s.data.toList=if be≠0 then .inl (be,(s.size:Int)) else .inr (f,h,W):=by rw [HR2.out,if_neg (by simp),hbf]
             have HR3:=Lib.hid hr3
             have HBF:=Lib.hid hbf
             clear hr3 hbf HR2
             obtain ⟨⟨q0,q1,q2⟩,_⟩:=HU9.out.1.cells
             go_wp2_with fail
             refine (rbright_at _ _ _ f h W be bp w9 HBT.out HBF.out).mono ?_
             rintro r w10 ⟨rfl,hb10⟩
             have HU10:=Lib.hid ((HU9.out.below hb10).alloc (.cells #[.int .i64 (be:Int),.int .i64 bp] 46))
             have HG10:Hid (rowF (w10.alloc (.cells #[.int .i64 (be:Int),.int .i64 bp] 46)) w10.heap.size (be:Int) bp):=Lib.hid (heap_alloc_new w10 _)
             clear hb10 q0 q1 q2
             go_wp2_with fail
             refine (is_any (be:Int) bp _).mono ?_
             rintro r w11 ⟨rfl,hb11⟩
             have HU11:=Lib.hid (HU10.out.below hb11)
             have HG11:=Lib.hid (rowF.below HG10.out hb11 (by simp))
             clear hb11 HU10 HG10
             by_cases hbe:be=0
             rotate_left
             · have HRES:Hid (unbF s.data.toList=.inl (be,(s.size:Int))):=Lib.hid (by rw [HR3.out,if_pos hbe])
               have hne:((be:Int) == 0)=false:=by simp;omega
               rw [hne]
               obtain ⟨g0,g1⟩:=HG11.out.at
               go_wp2_with fail
               refine (throw_any be (s.size:Int) _).mono ?_
               rintro r w' ⟨rfl,rfl⟩
               exact udoor_bad be (s.size:Int) HU11.out.1 hbe HRES.out _ rfl rfl
             subst hbe
             rw [show (((0:Nat):Int) == 0)=true by rfl]
             have HRES:Hid (unbF s.data.toList=.inr (f,h,W)):=Lib.hid (by rw [HR3.out,if_neg (by simp)])
             obtain ⟨⟨q0,q1,q2⟩,⟨x0,x1⟩,⟨z0,z1,z2⟩,z3,z4⟩:=HU11.out.1.cells
             have HUZ:=Lib.hid ((((HU11.out.1.put (o:=0) (v:=.slice af nf cf) rfl).put (o:=1) (v:=.slice ah nh ch) rfl).put (o:=2) (v:=.slice aw nw cw) rfl).fault 0 (-1))
             have HBO:Hid (BatOwn (((((w11.setCell ⟨w.heap.size,0,none⟩ (.slice af nf cf)).setCell ⟨w.heap.size,1,none⟩ (.slice ah nh ch)).setCell ⟨w.heap.size,2,none⟩ (.slice aw nw cw)).setCell ⟨w.heap.size + 1,0,none⟩ (.int .i64 0)).setCell ⟨w.heap.size + 1,1,none⟩ (.int .i64 (-1))) (w.heap.size + 2) (.slice af nf cf) (.slice ah nh ch) (.slice aw nw cw) f h W):=Lib.hid (by
               have hR2:=HU11.out.2.2.2.1
               have kk:∀ {W':World} {B o:Nat} {x:Value},B < R→OB (R + 2) (.slice af nf cf) (.slice ah nh ch) (.slice at_ nt ct) (.slice an nw cn) (.slice aw nw cw) f h T N W W'→OB (R + 2) (.slice af nf cf) (.slice ah nh ch) (.slice at_ nt ct) (.slice an nw cn) (.slice aw nw cw) f h T N W (W'.setCell ⟨B,o,none⟩ x):=fun hB ho=>ho.keep (grown_setQ _ _ _ _) (fun k hk=>by injection hk with hk;omega)
               have hoz:=kk (o:=1) (x:=.int .i64 (-1)) (B:=w.heap.size + 1) (by omega) (kk (o:=0) (x:=.int .i64 0) (B:=w.heap.size + 1) (by omega) (kk (o:=2) (x:=.slice aw nw cw) (B:=w.heap.size) (by omega) (kk (o:=1) (x:=.slice ah nh ch) (B:=w.heap.size) (by omega) (kk (o:=0) (x:=.slice af nf cf) (B:=w.heap.size) (by omega) HU11.out.2.2.1))))
               exact ⟨hoz.1.mono (by omega),hoz.2.1.mono (by omega),hoz.2.2.2.2.mono (by omega),HRF.out.1,HRH.out.1,by have:=HNW.out;have:=HWQ.out;omega,HWO.out⟩)
             go_wp2
             exact udoor_good HUZ.out HBO.out HRES.out _ rfl rfl
end Go.Proofs.YtjkbmfpomgcblaaGreatDoor
