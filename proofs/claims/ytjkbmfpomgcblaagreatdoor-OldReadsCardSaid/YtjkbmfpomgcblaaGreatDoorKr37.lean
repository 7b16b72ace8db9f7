import Derived.Test.YtjkbmfpomgcblaaGreatDoorKr36
namespace Go.Proofs.YtjkbmfpomgcblaaGreatDoor
open Go.RowKit
def OU1 (s:List UInt8) (k:Nat) (f h:List Ent) (a:Nat):Prop :=
 (k=0∧f=[]∧h=[]∧a=0)∨(k=1∧unE s 0=.inr (a,f)∧h=[])∨(k=2∧∃ b,unE s 0=.inr (b,f)∧unE s b=.inr (a,h))
theorem unE_len {s:List UInt8} {a b:Nat} {l:List Ent} (ha:a≤s.length) (h:unE s a=.inr (b,l)):l.length≤16:=by
 rcases intL_cases (s.drop a) 16 with ⟨e,h1,he,_⟩ | ⟨k,j,h1,hk,_,_,hj,hp⟩
 · rw [unE_bad h1 he] at h;cases h
 · rw [unE_ok h1] at h
   rw [List.length_drop] at hj
   obtain ⟨M1,g1,g2,_⟩:=unP_only _ _ _ _ _ (by omega) h
   rw [List.nil_append] at g1
   rw [g1,g2];omega
section
variable {w wr w':World} {R a:Nat} {s:ByteArray} {vf vh:Value} {f h:List Ent}
theorem US.addF {v:Value} {l:List Ent} (u:US w R s a vf (.slice none 0 0) (.slice none 0 0) (.slice none 0 0) (.slice none 0 0) f [] [] [] [] wr) (hn:ownsE w' (R + 2) v l) (hg:wr.grownBy w' vf.ownBlock):US w R s a v (.slice none 0 0) (.slice none 0 0) (.slice none 0 0) (.slice none 0 0) l [] [] [] [] (w'.setCell ⟨w.heap.size,0,none⟩ v):=by
 obtain ⟨u1,u2,⟨o1,o2,o3,o4,o5⟩,u4,u5⟩:=u
 have hf:=own_far o1
 have hg2:=grown_setQ w' w.heap.size 0 v
 exact ⟨(u1.kept hg (fun k hk=>by have:=hf k hk;omega)).put rfl,(u2.kept hg (fun e=>by have:=hf R e;omega)).kept hg2 (by simp;omega),OB.keep (row:=some w.heap.size) ⟨hn,ownsE_nil _ _,ownsS_nil _ _,ownsN_nil _ _,ownsW_nil _ _⟩ hg2 (fun k hk=>by injection hk with hk;omega),u4,Nat.le_trans u5 (by simpa using hg.size)⟩
theorem US.addH {v:Value} {l:List Ent} (u:US w R s a vf vh (.slice none 0 0) (.slice none 0 0) (.slice none 0 0) f h [] [] [] wr) (hs:∀ j,vh.ownBlock=some j→vf.ownBlock≠some j) (hn:ownsE w' (R + 2) v l) (hg:wr.grownBy w' vh.ownBlock):US w R s a vf v (.slice none 0 0) (.slice none 0 0) (.slice none 0 0) f l [] [] [] (w'.setCell ⟨w.heap.size,1,none⟩ v):=by
 obtain ⟨u1,u2,⟨o1,o2,o3,o4,o5⟩,u4,u5⟩:=u
 have hf:=own_far o2
 have hg2:=grown_setQ w' w.heap.size 1 v
 have k1:ownsE w' (R + 2) vf f:=World.ownsRow.kept o1 hg (by
   cases hv:vf.ownBlock with
   | none=>exact .inl rfl
   | some g=>exact .inr (fun e=>hs g e.symm hv))
 exact ⟨(u1.kept hg (fun k hk=>by have:=hf k hk;omega)).put rfl,(u2.kept hg (fun e=>by have:=hf R e;omega)).kept hg2 (by simp;omega),OB.keep (row:=some w.heap.size) ⟨k1,hn,ownsS_nil _ _,ownsN_nil _ _,ownsW_nil _ _⟩ hg2 (fun k hk=>by injection hk with hk;omega),u4,Nat.le_trans u5 (by simpa using hg.size)⟩
theorem sep_next {g n c:Nat} (o:ownsE wr (R + 2) vf f) (hs:∀ j,vh.ownBlock=some j→vf.ownBlock≠some j) (hg:vh.ownBlock=some g∨g=wr.heap.size):∀ j,(Value.slice (some ⟨g,0,none⟩) n c).ownBlock=some j→vf.ownBlock≠some j:=by
 intro j hj
 have e:g=j:=by simpa [Value.ownBlock] using hj
 subst e
 rcases hg with hg | hg
 · exact hs g hg
 · intro hv
   have:=(World.ownsRow.lt o g hv).2
   omega
end
set_option maxRecDepth 100000 in
set_option maxHeartbeats 16000000 in
theorem rold_one (s0 s:ByteArray) (w:World) (hs:s0.size≤400000) (ho:opnF s0.data.toList=(1,s.data.toList,0)) :
   Calls Tryz.prog 32 #[.string s0] w (ROldIs w s0.data.toList):=by
 have HOB:Hid (∀ {e:Nat},unO s.data.toList=.inl e→oldF s0.data.toList=.inl (e,-1)):=Lib.hid (fun h=>old_bad ho (by decide) (by decide) h)
 have HOG:Hid (∀ {b:List Ent×List Ent×List Wr},unO s.data.toList=.inr b→oldF s0.data.toList=.inr b):=Lib.hid (fun h=>old_ok ho (by decide) (by decide) h)
 obtain ⟨O,hol,hoj,ho4,ho5,hj⟩:=old_inside hs ho
 have HOL:=Lib.hid hol
 have HOJ:=Lib.hid hoj
 have HO:=Lib.hid ho
 have HWS:=Lib.hid (old_start w)
 have hs2:s0.size≤1000000:=by omega
 have ho3:3≤(O.size:Int):=by omega
 have HSL:Hid (s.data.toList.length=s.size):=Lib.hid (size_data s).symm
 have HS6:Hid (s.size≤1000000):=Lib.hid (by omega)
 have hmf:∀ (fn:Fn) (first cap:Array Value) (w:World),(Instr.makeFunc fn first cap).run Tryz.prog w=.ok (.func fn first cap) w:=fun _ _ _ _=>rfl
 clear ho hol hoj
 go_enter_defers Tryz.func32,Tryz.ntmps32
 go_wp2_with fail
 generalize (w.alloc (.cells #[.slice none 0 0,.slice none 0 0,.slice none 0 0] 25)).alloc (.cells #[.int .i64 0,.int .i64 0] 46)=W at HWS ⊢
 refine (rversion_as s0 s 1 0 W hs2 HO.out).mono ?_
 rintro r w00 ⟨rfl,hb0⟩
 have HN:=Lib.hid (UD.kept HWS.out (grown_b hb0) (fun k hk=>by cases hk))
 clear hb0
 go_wp2_with fail
 refine (ropen_to s0 O w00 hs2 HOL.out).mono ?_
 rintro r w01 ⟨rfl,hb1⟩
 have HN1:=Lib.hid (UD.kept HN.out (grown_b hb1) (fun k hk=>by cases hk))
 clear hb1
 go_wp2_with fail
 rw [HOJ.out]
 refine (good_any _).mono ?_
 rintro r w1 ⟨rfl,hb1⟩
 have HA:Hid (UD w w1 (.slice none 0 0) (.slice none 0 0) (.slice none 0 0) 0 0):=Lib.hid (UD.kept HN1.out (grown_b hb1) (fun k hk=>by cases hk))
 clear hb1 HN HN1 HWS
 obtain ⟨_,⟨c0,c1⟩,_,z0,z1⟩:=HA.out.cells
 have HUS0:Hid (US w w1.heap.size s 0 (.slice none 0 0) (.slice none 0 0) (.slice none 0 0) (.slice none 0 0) (.slice none 0 0) [] [] [] [] [] ((((w1.setCell ⟨w.heap.size + 1,0,none⟩ (.int .i64 0)).setCell ⟨w.heap.size + 1,1,none⟩ (.int .i64 (-1))).alloc (.cells #[.string s,.int .i64 0] 97)).alloc (.cells #[.pointer (some ⟨w.heap.size,0,none⟩),.pointer (some ⟨w.heap.size,1,none⟩)] 98))):=Lib.hid (by
   have h1:=HA.out.fault 0 (-1)
   have hsz:((w1.setCell ⟨w.heap.size + 1,0,none⟩ (.int .i64 0)).setCell ⟨w.heap.size + 1,1,none⟩ (.int .i64 (-1))).heap.size=w1.heap.size:=by simp
   generalize (w1.setCell ⟨w.heap.size + 1,0,none⟩ (.int .i64 0)).setCell ⟨w.heap.size + 1,1,none⟩ (.int .i64 (-1))=w2 at h1 hsz ⊢
   refine ⟨(h1.kept (World.grownBy_alloc _ _ none) (fun k hk=>by cases hk)).kept (World.grownBy_alloc _ _ none) (fun k hk=>by cases hk),?_,⟨ownsE_nil _ _,ownsE_nil _ _,ownsS_nil _ _,ownsN_nil _ _,ownsW_nil _ _⟩,HA.out.2.2.2,by simp;omega⟩
   unfold Sc
   rw [←hsz,Below.heap_alloc _ _ _ (by simp)]
   exact heap_alloc_new w2 _)
 have HPT0:Hid (PT w.heap.size w1.heap.size ((((w1.setCell ⟨w.heap.size + 1,0,none⟩ (.int .i64 0)).setCell ⟨w.heap.size + 1,1,none⟩ (.int .i64 (-1))).alloc (.cells #[.string s,.int .i64 0] 97)).alloc (.cells #[.pointer (some ⟨w.heap.size,0,none⟩),.pointer (some ⟨w.heap.size,1,none⟩)] 98))):=Lib.hid (by
   have hsz:(((w1.setCell ⟨w.heap.size + 1,0,none⟩ (.int .i64 0)).setCell ⟨w.heap.size + 1,1,none⟩ (.int .i64 (-1))).alloc (.cells #[.string s,.int .i64 0] 97)).heap.size=w1.heap.size + 1:=by simp
   unfold PT
   rw [←hsz]
   exact heap_alloc_new _ _)
 go_wp2
 clear c0 c1 z0 z1 HA
 generalize (((w1.setCell ⟨w.heap.size + 1,0,none⟩ (.int .i64 0)).setCell ⟨w.heap.size + 1,1,none⟩ (.int .i64 (-1))).alloc (.cells #[.string s,.int .i64 0] 97)).alloc (.cells #[.pointer (some ⟨w.heap.size,0,none⟩),.pointer (some ⟨w.heap.size,1,none⟩)] 98)=W2 at HUS0 HPT0 ⊢
 generalize w1.heap.size=R at HUS0 HPT0 ⊢
 go_loopw [55] (fun i wr=>∃ (k a:Nat) (f h:List Ent) (vf vh:Value),k≤2∧i=.int .i64 k∧OU1 s.data.toList k f h a∧a≤s.size∧US w R s a vf vh (.slice none 0 0) (.slice none 0 0) (.slice none 0 0) f h [] [] [] wr∧PT w.heap.size R wr∧(k=0→vf=.slice none 0 0∧vh=.slice none 0 0)∧(k=1→vh=.slice none 0 0)) (fun i _=>2 - (intOf i).toNat)
 case atStart=>exact ⟨0,0,[],[],.slice none 0 0,.slice none 0 0,by omega,rfl,.inl ⟨rfl,rfl,rfl,rfl⟩,Nat.zero_le _,HUS0.out,HPT0.out,fun _=>⟨rfl,rfl⟩,fun _=>rfl⟩
 case round =>
   obtain ⟨k,a,f,h,vf,vh,hk,rfl,hu,ha,us,pt,hv0,hv1⟩:=hrel
   clear HUS0 HPT0
   rcases hu with ⟨rfl,rfl,rfl,ha0⟩ | ⟨rfl,h1,rfl⟩ | ⟨rfl,n,h1,h2⟩
   · clear hk
     obtain ⟨rfl,rfl⟩:=hv0 rfl
     clear hv0 hv1
     have HA0:=Lib.hid ha0
     have HE:Hid (∀ {e:Nat},unE s.data.toList a=.inl e→oldF s0.data.toList=.inl (e,-1)):=Lib.hid (fun h=>HOB.out (unO_from (by rw [←HA0.out];exact h)))
     clear ha0
     have HPT:=Lib.hid pt
     have HUS:=Lib.hid us
     clear us pt
     have p0:wr.cell? ⟨R + 1,0,none⟩=some (.pointer (some ⟨w.heap.size,0,none⟩)):=cell_of_row _ _ 0 _ _ (0,0) HPT.out
     obtain ⟨wo,rfl⟩:∃ wo,wo=wr:=⟨_,rfl⟩
     rcases intL_cases (s.data.toList.drop a) 16 with ⟨e,h1,he,_⟩ | ⟨k1,j1,h1,hk16,_,hj10,hj1l,_⟩
     · have HRES:Hid (oldF s0.data.toList=.inl (e,-1)):=Lib.hid (HE.out (unE_bad h1 he))
       have H1:=Lib.hid h1
       clear h1
       go_wp2_with fail
       refine (next_bad R s a e 16 wo HUS.out.2.1 HS6.out ha (by decide) (by decide) H1.out he).mono ?_
       rintro r w2 ⟨rfl,hg2⟩
       exact odoor_bad e (a:Int) (HUS.out.1.kept hg2 (fun k hk=>by injection hk with hk;have:=HUS.out.2.2.2.1;omega)) he HRES.out _ rfl rfl
     rw [List.length_drop,HSL.out] at hj1l
     obtain ⟨b,hb⟩:∃ b,a + j1=b:=⟨_,rfl⟩
     have hbs:b≤s.size:=by omega
     have HUE:Hid (unE s.data.toList a=unP s.data.toList k1 b []):=Lib.hid (by rw [←hb];exact unE_ok h1)
     have H1:=Lib.hid h1
     have HJ10:=Lib.hid hj10
     have HBE:=Lib.hid hb
     have HK16:Hid (k1≤16):=Lib.hid (by omega)
     clear h1 hb hj1l hj10 hk16
     go_wp2_with fail
     refine (next_ok R s a k1 j1 16 wo HUS.out.2.1 HS6.out ha (by decide) (by decide) H1.out HJ10.out).mono ?_
     rintro r w2 ⟨rfl,hs2,hg2⟩
     rw [HBE.out] at hs2
     have HU2:=Lib.hid (HUS.out.next hs2 hg2)
     have HP2:=Lib.hid (HPT.out.kept hg2 (by simp))
     clear hs2 hg2 HUS HPT ha p0
     go_wp2
     go_loopw [11] (fun kv wr=>∃ (q c:Nat) (L:List Ent) (v:Value),kv=.int .i64 q∧c≤s.size∧L.length + q=k1∧unP s.data.toList k1 b []=unP s.data.toList q c L∧US w R s c v (.slice none 0 0) (.slice none 0 0) (.slice none 0 0) (.slice none 0 0) L [] [] [] [] wr∧PT w.heap.size R wr∧True) (fun kv _=>(intOf kv).toNat)
     case atStart=>exact ⟨k1,b,[],.slice none 0 0,rfl,hbs,by simp,rfl,HU2.out,HP2.out,trivial⟩
     case round =>
       obtain ⟨q,c,L,v,rfl,hc,hLq,hun,us,pt,hsep⟩:=hrel
       obtain ⟨av,cv,rfl,_⟩:=us.2.2.1.1.is.form
       obtain ⟨nv,hnv⟩:∃ nv,nv=L.length:=⟨_,rfl⟩
       rw [←hnv] at us
       have HUV:=Lib.hid us
       have HPV:=Lib.hid pt
       have HUN:=Lib.hid hun
       have HNV:=Lib.hid hnv
       have HLQ:Hid (nv + q=k1):=Lib.hid (by rw [hnv];exact hLq)
       have HSEP:=Lib.hid hsep
       clear us pt hun hnv hLq hsep HU2 HP2
       by_cases hq:0 < q
       · obtain ⟨q',hq'⟩:∃ q',q=q' + 1:=⟨q - 1,by omega⟩
         have HQ:=Lib.hid hq'
         have hq60:q≤60:=by have:=HLQ.out;have:=HK16.out;omega
         have hq0:(0:Int) < (q:Int):=by omega
         have hq1:IntKind.i64.wrap ((q:Int) - 1)=(q':Int):=by rw [show (q:Int) - 1=(q':Int) by omega];exact IntWalk.i64_in _ (by omega)
         have hq2:IntKind.i64.wrap (q':Int)=(q':Int):=IntWalk.i64_in _ (by omega)
         have HQB:Hid (q' < q∧q≤60):=Lib.hid (by omega)
         clear hq'
         have HER:Hid (∀ {e},unP s.data.toList (q' + 1) c L=.inl e→oldF s0.data.toList=.inl (e,-1)):=Lib.hid (fun hx=>HE.out (by rw [HUE.out,HUN.out,HQ.out];exact hx))
         rcases intL_cases (s.data.toList.drop c) 200 with ⟨e,h2,he,_⟩ | ⟨rn,j2,h2,hr200,_,hj10,hj2l,_⟩
         · have HRES:=Lib.hid (HER.out (unP_rep h2 he))
           have H2:=Lib.hid h2
           clear h2
           go_wp2_with fail
           refine (next_bad R s c e 200 _ HUV.out.2.1 HS6.out hc (by decide) (by decide) H2.out he).mono ?_
           rintro r w3 ⟨rfl,hg3⟩
           exact odoor_bad e (c:Int) (HUV.out.1.kept hg3 (fun k hk=>by injection hk with hk;have:=HUV.out.2.2.2.1;omega)) he HRES.out _ rfl rfl
         rw [List.length_drop,HSL.out] at hj2l
         obtain ⟨c2,hc2e⟩:∃ c2,c + j2=c2:=⟨_,rfl⟩
         have hc2:c2≤s.size:=by omega
         have H2:=Lib.hid h2
         have HJ2:=Lib.hid hj10
         have HC2:=Lib.hid hc2e
         clear h2 hj10 hj2l hc2e
         go_wp2_with fail
         refine (next_ok R s c rn j2 200 _ HUV.out.2.1 HS6.out hc (by decide) (by decide) H2.out HJ2.out).mono ?_
         rintro r w3 ⟨rfl,hs3,hg3⟩
         rw [HC2.out] at hs3
         have HU3:=Lib.hid (HUV.out.next hs3 hg3)
         have HP3:=Lib.hid (HPV.out.kept hg3 (by simp))
         clear hs3 hg3 HUV HPV hc
         have HU3d:=Lib.hid HU3.out.drew
         have HP3d:Hid (PT w.heap.size R w3.drew):=Lib.hid HP3.out
         obtain ⟨⟨b0,b1,b2⟩,_⟩:=HU3.out.1.cells
         rcases intL_cases (s.data.toList.drop c2) 1099511627776 with ⟨e,h3,he,_⟩ | ⟨tn,j3,h3,ht40,_,hj10,hj3l,_⟩
         · have HRES:=Lib.hid (HER.out (unP_time H2.out (by rw [HC2.out];exact h3) he))
           have H3:=Lib.hid h3
           clear h3
           go_wp2
           refine wp_region_keep (i:=2) (j:=3) (u:=.pointer (some ⟨w.heap.size,0,none⟩)) (v:=.pointer (some ⟨w.heap.size + 1,0,none⟩)) ?_
           refine wp_region_held_drew (S:=(fun w'=>w'.cell? ⟨w.heap.size,0,none⟩=some (.slice av nv cv))) (by kernel_rfl) b0 (fun hHeld=>?_)
           generalize w3.drew=W9 at HU3d HP3d hHeld ⊢
           refine wpAnyH_take (i:=0) (v:=?v0n0) rfl (by kernel_rfl) (by kernel_rfl) (by kernel_rfl) (KeepQ.put (by decide) (by decide)) (Or.inl ⟨by rfl,?h0n0⟩) (by assumption) ?r0n0
           case h0n0=>(intro W hSw;(try dsimp only at hSw);go_simp;all_goals (with_reducible rfl))
           try simp only [Act.put,List.getElem_toArray,List.getElem_cons_zero,List.setIfInBounds_toArray,List.set_cons_zero,List.set_cons_succ]
           refine wpAnyH_take (i:=1) (v:=?v1n0) rfl (by kernel_rfl) (by kernel_rfl) (by kernel_rfl) (KeepQ.put (by decide) (by decide)) (Or.inl ⟨by rfl,?h1n0⟩) (by assumption) ?r1n0
           case h1n0=>(intro W hSw;(try dsimp only at hSw);go_simp;all_goals (with_reducible rfl))
           try simp only [Act.put,List.getElem_toArray,List.getElem_cons_zero,List.getElem_cons_succ,List.setIfInBounds_toArray,List.set_cons_zero,List.set_cons_succ]
           refine wpAnyH_take (i:=2) (v:=?v2n0) rfl (by kernel_rfl) (by kernel_rfl) (by kernel_rfl) (KeepQ.put (by decide) (by decide)) (Or.inl ⟨by rfl,?h2n0⟩) (by assumption) ?r2n0
           case h2n0=>(intro W hSw;(try dsimp only at hSw);go_simp;all_goals (with_reducible rfl))
           try simp only [Act.put,List.getElem_toArray,List.getElem_cons_zero,List.getElem_cons_succ,List.setIfInBounds_toArray,List.set_cons_zero,List.set_cons_succ]
           refine wpAnyH_take (i:=3) (v:=?v3n0) rfl (by kernel_rfl) (by kernel_rfl) (by kernel_rfl) (KeepQ.put (by decide) (by decide)) (Or.inl ⟨by rfl,?h3n0⟩) (by assumption) ?r3n0
           case h3n0=>(intro W hSw;(try dsimp only at hSw);go_simp;all_goals (with_reducible rfl))
           try simp only [Act.put,List.getElem_toArray,List.getElem_cons_zero,List.getElem_cons_succ,List.setIfInBounds_toArray,List.set_cons_zero,List.set_cons_succ]
           refine wpAnyH_take (i:=4) (v:=?v4n0) rfl (by kernel_rfl) (by kernel_rfl) (by kernel_rfl) (KeepQ.put (by decide) (by decide)) (Or.inl ⟨by rfl,?h4n0⟩) (by assumption) ?r4n0
           case h4n0=>(intro W hSw;(try dsimp only at hSw);go_simp;all_goals (with_reducible rfl))
           try simp only [Act.put,List.getElem_toArray,List.getElem_cons_zero,List.getElem_cons_succ,List.setIfInBounds_toArray,List.set_cons_zero,List.set_cons_succ]
           refine wpAnyH_take (i:=5) (v:=?v5n0) rfl (by kernel_rfl) (by kernel_rfl) (by kernel_rfl) (KeepQ.put (by decide) (by decide)) (Or.inl ⟨by rfl,?h5n0⟩) (by assumption) ?r5n0
           case h5n0=>(intro W hSw;(try dsimp only at hSw);go_simp;all_goals (with_reducible rfl))
           try simp only [Act.put,List.getElem_toArray,List.getElem_cons_zero,List.getElem_cons_succ,List.setIfInBounds_toArray,List.set_cons_zero,List.set_cons_succ]
           refine wpAnyH_ready (rs:=[6]) (by kernel_rfl) (by simp) ?_
           refine AllReadyH.cons rfl (fun KK hKK=>?_) AllReadyH.nil
           go_simp
           refine (next_bad R s c2 e 1099511627776 W9 HU3d.out.2.1 HS6.out hc2 (by decide) (by decide) H3.out he).mono ?_
           rintro r w10 ⟨rfl,hg10⟩
           have HU10:=Lib.hid (HU3d.out.1.kept hg10 (fun k hk=>by injection hk with hk;have:=HU3d.out.2.2.2.1;omega))
           refine ⟨⟨rfl,rfl⟩,fun a' e1 e2 e3=>?_⟩
           obtain ⟨tm,df⟩:=a'
           dsimp only at e1 e2 e3
           subst e3
           exact odoor_bad e (c2:Int) HU10.out he HRES.out tm e1 e2
         rw [List.length_drop,HSL.out] at hj3l
         obtain ⟨c3,hc3e⟩:∃ c3,c2 + j3=c3:=⟨_,rfl⟩
         have hc3:c3≤s.size:=by omega
         have H3:=Lib.hid h3
         have HJ3:=Lib.hid hj10
         have HC3:=Lib.hid hc3e
         have HUN2:Hid (unP s.data.toList k1 b []=unP s.data.toList q' c3 (L ++ [⟨(rn:Int),(tn:Int)⟩])):=Lib.hid (by rw [HUN.out,HQ.out,unP_ok H2.out (by rw [HC2.out];exact h3),HC2.out,hc3e])
         have HLL:Hid (L.length + 1≤1000000):=Lib.hid (by have:=HLQ.out;have:=HNV.out;have:=HK16.out;omega)
         have HLN:Hid (L.length + 1=nv + 1):=Lib.hid (by rw [HNV.out])
         have HLQ2:Hid ((L ++ [(⟨(rn:Int),(tn:Int)⟩:Ent)]).length + q'=k1):=Lib.hid (by rw [List.length_append];have:=HLQ.out;have:=HNV.out;have:=HQ.out;simp;omega)
         clear h3 hj10 hj3l hc3e ht40 b0 b1 b2
         go_wp2
         refine wp_region_noPanic ?_
         refine wp_region_held_drew (S:=(fun _=>True)) (by kernel_rfl) trivial (fun hHeld=>?_)
         generalize w3.drew=W9 at HU3d HP3d hHeld ⊢
         refine wpAnyH_take (i:=0) (v:=?v0g0) rfl (by kernel_rfl) (by kernel_rfl) (by kernel_rfl) (fun _ _ _ h=>h) (Or.inl ⟨by rfl,?h0g0⟩) (by assumption) ?r0g0
         case h0g0=>(intro W hSw;(try dsimp only at hSw);go_simp;all_goals (with_reducible rfl))
         try simp only [Act.put,List.getElem_toArray,List.getElem_cons_zero,List.setIfInBounds_toArray,List.set_cons_zero,List.set_cons_succ]
         refine wpAnyH_take (i:=1) (v:=?v1g0) rfl (by kernel_rfl) (by kernel_rfl) (by kernel_rfl) (fun _ _ _ h=>h) (Or.inl ⟨by rfl,?h1g0⟩) (by assumption) ?r1g0
         case h1g0=>(intro W hSw;(try dsimp only at hSw);go_simp;all_goals (with_reducible rfl))
         try simp only [Act.put,List.getElem_toArray,List.getElem_cons_zero,List.getElem_cons_succ,List.setIfInBounds_toArray,List.set_cons_zero,List.set_cons_succ]
         refine wpAnyH_take (i:=2) (v:=?v2g0) rfl (by kernel_rfl) (by kernel_rfl) (by kernel_rfl) (fun _ _ _ h=>h) (Or.inl ⟨by rfl,?h2g0⟩) (by assumption) ?r2g0
         case h2g0=>(intro W hSw;(try dsimp only at hSw);go_simp;all_goals (with_reducible rfl))
         try simp only [Act.put,List.getElem_toArray,List.getElem_cons_zero,List.getElem_cons_succ,List.setIfInBounds_toArray,List.set_cons_zero,List.set_cons_succ]
         refine wpAnyH_take (i:=4) (v:=?v4g0) rfl (by kernel_rfl) (by kernel_rfl) (by kernel_rfl) (fun _ _ _ h=>h) (Or.inl ⟨by rfl,?h4g0⟩) (by assumption) ?r4g0
         case h4g0=>(intro W hSw;(try dsimp only at hSw);go_simp;all_goals (with_reducible rfl))
         try simp only [Act.put,List.getElem_toArray,List.getElem_cons_zero,List.getElem_cons_succ,List.setIfInBounds_toArray,List.set_cons_zero,List.set_cons_succ]
         refine wpAnyH_take (i:=5) (v:=?v5g0) rfl (by kernel_rfl) (by kernel_rfl) (by kernel_rfl) (fun _ _ _ h=>h) (Or.inl ⟨by rfl,?h5g0⟩) (by assumption) ?r5g0
         case h5g0=>(intro W hSw;(try dsimp only at hSw);go_simp;all_goals (with_reducible rfl))
         try simp only [Act.put,List.getElem_toArray,List.getElem_cons_zero,List.getElem_cons_succ,List.setIfInBounds_toArray,List.set_cons_zero,List.set_cons_succ]
         refine wpAnyH_ready (rs:=[3,6]) (by kernel_rfl) (by simp) ?_
         refine AllReadyH.cons rfl (fun KK hKK=>?_) (AllReadyH.cons rfl (fun KK hKK=>?_) AllReadyH.nil)
         · obtain ⟨⟨q0,q1,q2⟩,_⟩:=HU3d.out.1.cells
           go_simp
           refine hKK.out _ _ trivial (fun hHeld=>?_)
           clear hKK q0 q1 q2
           try simp only [Act.put,List.getElem_toArray,List.getElem_cons_zero,List.getElem_cons_succ,List.setIfInBounds_toArray,List.set_cons_zero,List.set_cons_succ]
           refine wpAnyH_ready (rs:=[6]) (by kernel_rfl) (by simp) ?_
           refine AllReadyH.cons rfl (fun KK hKK=>?_) AllReadyH.nil
           go_simp
           refine (next_ok R s c2 tn j3 1099511627776 W9 HU3d.out.2.1 HS6.out hc2 (by decide) (by decide) H3.out HJ3.out).mono ?_
           rintro r w10 ⟨rfl,hs10,hg10⟩
           rw [HC3.out] at hs10
           have HU10:=Lib.hid (HU3d.out.next hs10 hg10)
           have HP10:=Lib.hid (HP3d.out.kept hg10 (by simp))
           clear hs10 hg10
           refine hKK.out _ _ trivial (fun hHeld=>?_)
           clear hKK
           try simp only [Act.put,List.getElem_toArray,List.getElem_cons_zero,List.getElem_cons_succ,List.setIfInBounds_toArray,List.set_cons_zero,List.set_cons_succ]
           refine wpAnyH_take (i:=7) (v:=?v7a0) rfl (by kernel_rfl) (by kernel_rfl) (by kernel_rfl) (fun _ _ _ h=>h) (Or.inl ⟨by rfl,?h7a0⟩) (by assumption) ?r7a0
           case h7a0=>(intro W hSw;(try dsimp only at hSw);go_simp;all_goals (with_reducible rfl))
           try simp only [Act.put,List.getElem_toArray,List.getElem_cons_zero,List.getElem_cons_succ,List.setIfInBounds_toArray,List.set_cons_zero,List.set_cons_succ]
           refine wpAnyH_ready (rs:=[8]) (by kernel_rfl) (by simp) ?_
           refine AllReadyH.cons rfl (fun KK hKK=>?_) AllReadyH.nil
           go_simp
           refine hKK.out _ _ trivial (fun hHeld=>?_)
           clear hKK
           try simp only [Act.put,List.getElem_toArray,List.getElem_cons_zero,List.getElem_cons_succ,List.setIfInBounds_toArray,List.set_cons_zero,List.set_cons_succ]
           have HUB:=Lib.hid (HU10.out.alloc (.cells #[.int .i64 (rn:Int),.int .i64 (tn:Int)] 74))
           have HPB:Hid (PT w.heap.size R (w10.alloc (.cells #[.int .i64 (rn:Int),.int .i64 (tn:Int)] 74))):=Lib.hid (HP10.out.below ((Below.refl _ _).alloc (Nat.le_refl _) _))
           have HLB:Hid (entBlk (w10.alloc (.cells #[.int .i64 (rn:Int),.int .i64 (tn:Int)] 74)) w10.heap.size ⟨(rn:Int),(tn:Int)⟩):=Lib.hid (entBlk_new _ _ _)
           generalize w10.alloc (.cells #[.int .i64 (rn:Int),.int .i64 (tn:Int)] 74)=WB at HUB HPB HLB hHeld ⊢
           generalize w10.heap.size=bl at HLB ⊢
           refine wpAnyH_ready (rs:=[9]) (by kernel_rfl) (by simp) ?_
           refine AllReadyH.cons rfl (fun KK hKK=>?_) AllReadyH.nil
           refine step_append_ent WB rfl _ _ rfl (R + 2) _ L rfl HUB.out.2.2.1.1 bl 1 rfl ⟨(rn:Int),(tn:Int)⟩ HLB.out HLL.out HUB.out.2.2.2.2 ?_
           intro g cap w14 ho14 hg14 hor14
           rw [HLN.out] at ho14
           rw [HLN.out]
           have HU14:=Lib.hid (HUB.out.addF ho14 hg14)
           have HP14:=Lib.hid (HPB.out.kept hg14 (fun e=>by have:=own_far HUB.out.2.2.1.1 _ e;omega))
           have hud:=HUB.out.1.kept hg14 (fun k hk=>by have:=own_far HUB.out.2.2.1.1 k hk;have:=HUB.out.2.2.2.1;omega)
           have HSEP2:Hid (True):=Lib.hid (trivial)
           clear ho14 hg14 hor14
           refine hKK.out _ _ trivial (fun hHeld=>?_)
           clear hKK
           try simp only [Act.put,List.getElem_toArray,List.getElem_cons_zero,List.getElem_cons_succ,List.setIfInBounds_toArray,List.set_cons_zero,List.set_cons_succ]
           refine wpAnyH_take (i:=10) (v:=?v10r0a) rfl (by kernel_rfl) (by kernel_rfl) (by kernel_rfl) (fun _ _ _ h=>h) (Or.inl ⟨by rfl,?h10r0a⟩) (by assumption) ?r10r0a
           case h10r0a=>(intro W hSw;(try dsimp only at hSw);go_simp;all_goals (with_reducible rfl))
           try simp only [Act.put,List.getElem_toArray,List.getElem_cons_zero,List.getElem_cons_succ,List.setIfInBounds_toArray,List.set_cons_zero,List.set_cons_succ]
           obtain ⟨⟨q0,q1,q2⟩,_,⟨z0,z1,z2⟩,_⟩:=hud.cells
           clear hud
           refine wpAnyH_ready (rs:=[11]) (by kernel_rfl) (by simp) ?_
           refine AllReadyH.cons rfl (fun KK hKK=>?_) AllReadyH.nil
           go_simp
           refine hKK.out _ _ trivial (fun hHeld=>?_)
           clear hKK q0 q1 q2 z0 z1 z2
           try simp only [Act.put,List.getElem_toArray,List.getElem_cons_zero,List.getElem_cons_succ,List.setIfInBounds_toArray,List.set_cons_zero,List.set_cons_succ]
           refine wpAnyH_done (by kernel_rfl) ?_ _
           refine NoPanic.normal ?_
           clear hHeld
           have HP15:=Lib.hid (HP14.out.kept (grown_setQ w14 w.heap.size 0 (.slice (some ⟨g,0,none⟩) (nv + 1) cap)) (by have:=HU14.out.2.2.2.1;simp;omega))
           generalize w14.setCell ⟨w.heap.size,0,none⟩ (.slice (some ⟨g,0,none⟩) (nv + 1) cap)=w15 at HU14 HP15 ⊢
           go_wp2
           go_roundw
           case rel=>exact ⟨q',c3,L ++ [⟨(rn:Int),(tn:Int)⟩],_,by go_num,hc3,HLQ2.out,HUN2.out,HU14.out,HP15.out,HSEP2.out⟩
           case measure=>have:=HQB.out;simp [intOf];omega
         · go_simp
           refine (next_ok R s c2 tn j3 1099511627776 W9 HU3d.out.2.1 HS6.out hc2 (by decide) (by decide) H3.out HJ3.out).mono ?_
           rintro r w10 ⟨rfl,hs10,hg10⟩
           rw [HC3.out] at hs10
           have HU10:=Lib.hid (HU3d.out.next hs10 hg10)
           have HP10:=Lib.hid (HP3d.out.kept hg10 (by simp))
           clear hs10 hg10
           refine hKK.out _ _ trivial (fun hHeld=>?_)
           clear hKK
           try simp only [Act.put,List.getElem_toArray,List.getElem_cons_zero,List.getElem_cons_succ,List.setIfInBounds_toArray,List.set_cons_zero,List.set_cons_succ]
           refine wpAnyH_take (i:=7) (v:=?v7b0) rfl (by kernel_rfl) (by kernel_rfl) (by kernel_rfl) (fun _ _ _ h=>h) (Or.inl ⟨by rfl,?h7b0⟩) (by assumption) ?r7b0
           case h7b0=>(intro W hSw;(try dsimp only at hSw);go_simp;all_goals (with_reducible rfl))
           try simp only [Act.put,List.getElem_toArray,List.getElem_cons_zero,List.getElem_cons_succ,List.setIfInBounds_toArray,List.set_cons_zero,List.set_cons_succ]
           refine wpAnyH_ready (rs:=[3,8]) (by kernel_rfl) (by simp) ?_
           refine AllReadyH.cons rfl (fun KK hKK=>?_) (AllReadyH.cons rfl (fun KK hKK=>?_) AllReadyH.nil)
           · obtain ⟨⟨q0,q1,q2⟩,_⟩:=HU10.out.1.cells
             go_simp
             refine hKK.out _ _ trivial (fun hHeld=>?_)
             clear hKK q0 q1 q2
             try simp only [Act.put,List.getElem_toArray,List.getElem_cons_zero,List.getElem_cons_succ,List.setIfInBounds_toArray,List.set_cons_zero,List.set_cons_succ]
             refine wpAnyH_ready (rs:=[8]) (by kernel_rfl) (by simp) ?_
             refine AllReadyH.cons rfl (fun KK hKK=>?_) AllReadyH.nil
             go_simp
             refine hKK.out _ _ trivial (fun hHeld=>?_)
             clear hKK
             try simp only [Act.put,List.getElem_toArray,List.getElem_cons_zero,List.getElem_cons_succ,List.setIfInBounds_toArray,List.set_cons_zero,List.set_cons_succ]
             have HUB:=Lib.hid (HU10.out.alloc (.cells #[.int .i64 (rn:Int),.int .i64 (tn:Int)] 74))
             have HPB:Hid (PT w.heap.size R (w10.alloc (.cells #[.int .i64 (rn:Int),.int .i64 (tn:Int)] 74))):=Lib.hid (HP10.out.below ((Below.refl _ _).alloc (Nat.le_refl _) _))
             have HLB:Hid (entBlk (w10.alloc (.cells #[.int .i64 (rn:Int),.int .i64 (tn:Int)] 74)) w10.heap.size ⟨(rn:Int),(tn:Int)⟩):=Lib.hid (entBlk_new _ _ _)
             generalize w10.alloc (.cells #[.int .i64 (rn:Int),.int .i64 (tn:Int)] 74)=WB at HUB HPB HLB hHeld ⊢
             generalize w10.heap.size=bl at HLB ⊢
             refine wpAnyH_ready (rs:=[9]) (by kernel_rfl) (by simp) ?_
             refine AllReadyH.cons rfl (fun KK hKK=>?_) AllReadyH.nil
             refine step_append_ent WB rfl _ _ rfl (R + 2) _ L rfl HUB.out.2.2.1.1 bl 1 rfl ⟨(rn:Int),(tn:Int)⟩ HLB.out HLL.out HUB.out.2.2.2.2 ?_
             intro g cap w14 ho14 hg14 hor14
             rw [HLN.out] at ho14
             rw [HLN.out]
             have HU14:=Lib.hid (HUB.out.addF ho14 hg14)
             have HP14:=Lib.hid (HPB.out.kept hg14 (fun e=>by have:=own_far HUB.out.2.2.1.1 _ e;omega))
             have hud:=HUB.out.1.kept hg14 (fun k hk=>by have:=own_far HUB.out.2.2.1.1 k hk;have:=HUB.out.2.2.2.1;omega)
             have HSEP2:Hid (True):=Lib.hid (trivial)
             clear ho14 hg14 hor14
             refine hKK.out _ _ trivial (fun hHeld=>?_)
             clear hKK
             try simp only [Act.put,List.getElem_toArray,List.getElem_cons_zero,List.getElem_cons_succ,List.setIfInBounds_toArray,List.set_cons_zero,List.set_cons_succ]
             refine wpAnyH_take (i:=10) (v:=?v10r0b) rfl (by kernel_rfl) (by kernel_rfl) (by kernel_rfl) (fun _ _ _ h=>h) (Or.inl ⟨by rfl,?h10r0b⟩) (by assumption) ?r10r0b
             case h10r0b=>(intro W hSw;(try dsimp only at hSw);go_simp;all_goals (with_reducible rfl))
             try simp only [Act.put,List.getElem_toArray,List.getElem_cons_zero,List.getElem_cons_succ,List.setIfInBounds_toArray,List.set_cons_zero,List.set_cons_succ]
             obtain ⟨⟨q0,q1,q2⟩,_,⟨z0,z1,z2⟩,_⟩:=hud.cells
             clear hud
             refine wpAnyH_ready (rs:=[11]) (by kernel_rfl) (by simp) ?_
             refine AllReadyH.cons rfl (fun KK hKK=>?_) AllReadyH.nil
             go_simp
             refine hKK.out _ _ trivial (fun hHeld=>?_)
             clear hKK q0 q1 q2 z0 z1 z2
             try simp only [Act.put,List.getElem_toArray,List.getElem_cons_zero,List.getElem_cons_succ,List.setIfInBounds_toArray,List.set_cons_zero,List.set_cons_succ]
             refine wpAnyH_done (by kernel_rfl) ?_ _
             refine NoPanic.normal ?_
             clear hHeld
             have HP15:=Lib.hid (HP14.out.kept (grown_setQ w14 w.heap.size 0 (.slice (some ⟨g,0,none⟩) (nv + 1) cap)) (by have:=HU14.out.2.2.2.1;simp;omega))
             generalize w14.setCell ⟨w.heap.size,0,none⟩ (.slice (some ⟨g,0,none⟩) (nv + 1) cap)=w15 at HU14 HP15 ⊢
             go_wp2
             go_roundw
             case rel=>exact ⟨q',c3,L ++ [⟨(rn:Int),(tn:Int)⟩],_,by go_num,hc3,HLQ2.out,HUN2.out,HU14.out,HP15.out,HSEP2.out⟩
             case measure=>have:=HQB.out;simp [intOf];omega
           · go_simp
             refine hKK.out _ _ trivial (fun hHeld=>?_)
             clear hKK
             try simp only [Act.put,List.getElem_toArray,List.getElem_cons_zero,List.getElem_cons_succ,List.setIfInBounds_toArray,List.set_cons_zero,List.set_cons_succ]
             have HUB:=Lib.hid (HU10.out.alloc (.cells #[.int .i64 (rn:Int),.int .i64 (tn:Int)] 74))
             have HPB:Hid (PT w.heap.size R (w10.alloc (.cells #[.int .i64 (rn:Int),.int .i64 (tn:Int)] 74))):=Lib.hid (HP10.out.below ((Below.refl _ _).alloc (Nat.le_refl _) _))
             have HLB:Hid (entBlk (w10.alloc (.cells #[.int .i64 (rn:Int),.int .i64 (tn:Int)] 74)) w10.heap.size ⟨(rn:Int),(tn:Int)⟩):=Lib.hid (entBlk_new _ _ _)
             generalize w10.alloc (.cells #[.int .i64 (rn:Int),.int .i64 (tn:Int)] 74)=WB at HUB HPB HLB hHeld ⊢
             generalize w10.heap.size=bl at HLB ⊢
             refine wpAnyH_ready (rs:=[3]) (by kernel_rfl) (by simp) ?_
             refine AllReadyH.cons rfl (fun KK hKK=>?_) AllReadyH.nil
             obtain ⟨⟨q0,q1,q2⟩,_⟩:=HUB.out.1.cells
             go_simp
             refine hKK.out _ _ trivial (fun hHeld=>?_)
             clear hKK q0 q1 q2
             try simp only [Act.put,List.getElem_toArray,List.getElem_cons_zero,List.getElem_cons_succ,List.setIfInBounds_toArray,List.set_cons_zero,List.set_cons_succ]
             refine wpAnyH_ready (rs:=[9]) (by kernel_rfl) (by simp) ?_
             refine AllReadyH.cons rfl (fun KK hKK=>?_) AllReadyH.nil
             refine step_append_ent WB rfl _ _ rfl (R + 2) _ L rfl HUB.out.2.2.1.1 bl 1 rfl ⟨(rn:Int),(tn:Int)⟩ HLB.out HLL.out HUB.out.2.2.2.2 ?_
             intro g cap w14 ho14 hg14 hor14
             rw [HLN.out] at ho14
             rw [HLN.out]
             have HU14:=Lib.hid (HUB.out.addF ho14 hg14)
             have HP14:=Lib.hid (HPB.out.kept hg14 (fun e=>by have:=own_far HUB.out.2.2.1.1 _ e;omega))
             have hud:=HUB.out.1.kept hg14 (fun k hk=>by have:=own_far HUB.out.2.2.1.1 k hk;have:=HUB.out.2.2.2.1;omega)
             have HSEP2:Hid (True):=Lib.hid (trivial)
             clear ho14 hg14 hor14
             refine hKK.out _ _ trivial (fun hHeld=>?_)
             clear hKK
             try simp only [Act.put,List.getElem_toArray,List.getElem_cons_zero,List.getElem_cons_succ,List.setIfInBounds_toArray,List.set_cons_zero,List.set_cons_succ]
             refine wpAnyH_take (i:=10) (v:=?v10r0c) rfl (by kernel_rfl) (by kernel_rfl) (by kernel_rfl) (fun _ _ _ h=>h) (Or.inl ⟨by rfl,?h10r0c⟩) (by assumption) ?r10r0c
             case h10r0c=>(intro W hSw;(try dsimp only at hSw);go_simp;all_goals (with_reducible rfl))
             try simp only [Act.put,List.getElem_toArray,List.getElem_cons_zero,List.getElem_cons_succ,List.setIfInBounds_toArray,List.set_cons_zero,List.set_cons_succ]
             obtain ⟨⟨q0,q1,q2⟩,_,⟨z0,z1,z2⟩,_⟩:=hud.cells
             clear hud
             refine wpAnyH_ready (rs:=[11]) (by kernel_rfl) (by simp) ?_
             refine AllReadyH.cons rfl (fun KK hKK=>?_) AllReadyH.nil
             go_simp
             refine hKK.out _ _ trivial (fun hHeld=>?_)
             clear hKK q0 q1 q2 z0 z1 z2
             try simp only [Act.put,List.getElem_toArray,List.getElem_cons_zero,List.getElem_cons_succ,List.setIfInBounds_toArray,List.set_cons_zero,List.set_cons_succ]
             refine wpAnyH_done (by kernel_rfl) ?_ _
             refine NoPanic.normal ?_
             clear hHeld
             have HP15:=Lib.hid (HP14.out.kept (grown_setQ w14 w.heap.size 0 (.slice (some ⟨g,0,none⟩) (nv + 1) cap)) (by have:=HU14.out.2.2.2.1;simp;omega))
             generalize w14.setCell ⟨w.heap.size,0,none⟩ (.slice (some ⟨g,0,none⟩) (nv + 1) cap)=w15 at HU14 HP15 ⊢
             go_wp2
             go_roundw
             case rel=>exact ⟨q',c3,L ++ [⟨(rn:Int),(tn:Int)⟩],_,by go_num,hc3,HLQ2.out,HUN2.out,HU14.out,HP15.out,HSEP2.out⟩
             case measure=>have:=HQB.out;simp [intOf];omega
       · obtain rfl:q=0:=by omega
         have hq0:¬ ((0:Int) < ((0:Nat):Int)):=by omega
         go_wp2
         go_roundw
         case rel=>exact ⟨1,c,L,[],.slice av nv cv,.slice none 0 0,by omega,by go_num,.inr (.inl ⟨rfl,by rw [←HA0.out,HUE.out,HUN.out];rfl,rfl⟩),hc,HUV.out,HPV.out,fun h=>absurd h (by decide),fun _=>rfl⟩
         case measure=>simp [intOf]
   · clear hk
     obtain rfl:=hv1 rfl
     clear hv0 hv1
     have HF:=Lib.hid h1
     have HE:Hid (∀ {e:Nat},unE s.data.toList a=.inl e→oldF s0.data.toList=.inl (e,-1)):=Lib.hid (fun h=>HOB.out (unO_have HF.out h))
     clear h1
     have HPT:=Lib.hid pt
     have HUS:=Lib.hid us
     clear us pt
     have p0:wr.cell? ⟨R + 1,1,none⟩=some (.pointer (some ⟨w.heap.size,1,none⟩)):=cell_of_row _ _ 1 _ _ (0,0) HPT.out
     obtain ⟨wo,rfl⟩:∃ wo,wo=wr:=⟨_,rfl⟩
     rcases intL_cases (s.data.toList.drop a) 16 with ⟨e,h1,he,_⟩ | ⟨k1,j1,h1,hk16,_,hj10,hj1l,_⟩
     · have HRES:Hid (oldF s0.data.toList=.inl (e,-1)):=Lib.hid (HE.out (unE_bad h1 he))
       have H1:=Lib.hid h1
       clear h1
       go_wp2_with fail
       refine (next_bad R s a e 16 wo HUS.out.2.1 HS6.out ha (by decide) (by decide) H1.out he).mono ?_
       rintro r w2 ⟨rfl,hg2⟩
       exact odoor_bad e (a:Int) (HUS.out.1.kept hg2 (fun k hk=>by injection hk with hk;have:=HUS.out.2.2.2.1;omega)) he HRES.out _ rfl rfl
     rw [List.length_drop,HSL.out] at hj1l
     obtain ⟨b,hb⟩:∃ b,a + j1=b:=⟨_,rfl⟩
     have hbs:b≤s.size:=by omega
     have HUE:Hid (unE s.data.toList a=unP s.data.toList k1 b []):=Lib.hid (by rw [←hb];exact unE_ok h1)
     have H1:=Lib.hid h1
     have HJ10:=Lib.hid hj10
     have HBE:=Lib.hid hb
     have HK16:Hid (k1≤16):=Lib.hid (by omega)
     clear h1 hb hj1l hj10 hk16
     go_wp2_with fail
     refine (next_ok R s a k1 j1 16 wo HUS.out.2.1 HS6.out ha (by decide) (by decide) H1.out HJ10.out).mono ?_
     rintro r w2 ⟨rfl,hs2,hg2⟩
     rw [HBE.out] at hs2
     have HU2:=Lib.hid (HUS.out.next hs2 hg2)
     have HP2:=Lib.hid (HPT.out.kept hg2 (by simp))
     clear hs2 hg2 HUS HPT ha p0
     go_wp2
     go_loopw [11] (fun kv wr=>∃ (q c:Nat) (L:List Ent) (v:Value),kv=.int .i64 q∧c≤s.size∧L.length + q=k1∧unP s.data.toList k1 b []=unP s.data.toList q c L∧US w R s c vf v (.slice none 0 0) (.slice none 0 0) (.slice none 0 0) f L [] [] [] wr∧PT w.heap.size R wr∧(∀ j,v.ownBlock=some j→vf.ownBlock≠some j)) (fun kv _=>(intOf kv).toNat)
     case atStart=>exact ⟨k1,b,[],.slice none 0 0,rfl,hbs,by simp,rfl,HU2.out,HP2.out,(fun j hj=>by simp [Value.ownBlock] at hj)⟩
     case round =>
       obtain ⟨q,c,L,v,rfl,hc,hLq,hun,us,pt,hsep⟩:=hrel
       obtain ⟨av,cv,rfl,_⟩:=us.2.2.1.2.1.is.form
       obtain ⟨nv,hnv⟩:∃ nv,nv=L.length:=⟨_,rfl⟩
       rw [←hnv] at us hsep
       have HUV:=Lib.hid us
       have HPV:=Lib.hid pt
       have HUN:=Lib.hid hun
       have HNV:=Lib.hid hnv
       have HLQ:Hid (nv + q=k1):=Lib.hid (by rw [hnv];exact hLq)
       have HSEP:=Lib.hid hsep
       clear us pt hun hnv hLq hsep HU2 HP2
       by_cases hq:0 < q
       · obtain ⟨q',hq'⟩:∃ q',q=q' + 1:=⟨q - 1,by omega⟩
         have HQ:=Lib.hid hq'
         have hq60:q≤60:=by have:=HLQ.out;have:=HK16.out;omega
         have hq0:(0:Int) < (q:Int):=by omega
         have hq1:IntKind.i64.wrap ((q:Int) - 1)=(q':Int):=by rw [show (q:Int) - 1=(q':Int) by omega];exact IntWalk.i64_in _ (by omega)
         have hq2:IntKind.i64.wrap (q':Int)=(q':Int):=IntWalk.i64_in _ (by omega)
         have HQB:Hid (q' < q∧q≤60):=Lib.hid (by omega)
         clear hq'
         have HER:Hid (∀ {e},unP s.data.toList (q' + 1) c L=.inl e→oldF s0.data.toList=.inl (e,-1)):=Lib.hid (fun hx=>HE.out (by rw [HUE.out,HUN.out,HQ.out];exact hx))
         rcases intL_cases (s.data.toList.drop c) 200 with ⟨e,h2,he,_⟩ | ⟨rn,j2,h2,hr200,_,hj10,hj2l,_⟩
         · have HRES:=Lib.hid (HER.out (unP_rep h2 he))
           have H2:=Lib.hid h2
           clear h2
           go_wp2_with fail
           refine (next_bad R s c e 200 _ HUV.out.2.1 HS6.out hc (by decide) (by decide) H2.out he).mono ?_
           rintro r w3 ⟨rfl,hg3⟩
           exact odoor_bad e (c:Int) (HUV.out.1.kept hg3 (fun k hk=>by injection hk with hk;have:=HUV.out.2.2.2.1;omega)) he HRES.out _ rfl rfl
         rw [List.length_drop,HSL.out] at hj2l
         obtain ⟨c2,hc2e⟩:∃ c2,c + j2=c2:=⟨_,rfl⟩
         have hc2:c2≤s.size:=by omega
         have H2:=Lib.hid h2
         have HJ2:=Lib.hid hj10
         have HC2:=Lib.hid hc2e
         clear h2 hj10 hj2l hc2e
         go_wp2_with fail
         refine (next_ok R s c rn j2 200 _ HUV.out.2.1 HS6.out hc (by decide) (by decide) H2.out HJ2.out).mono ?_
         rintro r w3 ⟨rfl,hs3,hg3⟩
         rw [HC2.out] at hs3
         have HU3:=Lib.hid (HUV.out.next hs3 hg3)
         have HP3:=Lib.hid (HPV.out.kept hg3 (by simp))
         clear hs3 hg3 HUV HPV hc
         have HU3d:=Lib.hid HU3.out.drew
         have HP3d:Hid (PT w.heap.size R w3.drew):=Lib.hid HP3.out
         obtain ⟨⟨b0,b1,b2⟩,_⟩:=HU3.out.1.cells
         rcases intL_cases (s.data.toList.drop c2) 1099511627776 with ⟨e,h3,he,_⟩ | ⟨tn,j3,h3,ht40,_,hj10,hj3l,_⟩
         · have HRES:=Lib.hid (HER.out (unP_time H2.out (by rw [HC2.out];exact h3) he))
           have H3:=Lib.hid h3
           clear h3
           go_wp2
           refine wp_region_keep (i:=2) (j:=3) (u:=.pointer (some ⟨w.heap.size,0,none⟩)) (v:=.pointer (some ⟨w.heap.size + 1,0,none⟩)) ?_
           refine wp_region_held_drew (S:=(fun w'=>w'.cell? ⟨w.heap.size,1,none⟩=some (.slice av nv cv))) (by kernel_rfl) b1 (fun hHeld=>?_)
           generalize w3.drew=W9 at HU3d HP3d hHeld ⊢
           refine wpAnyH_take (i:=0) (v:=?v0n1) rfl (by kernel_rfl) (by kernel_rfl) (by kernel_rfl) (KeepQ.put (by decide) (by decide)) (Or.inl ⟨by rfl,?h0n1⟩) (by assumption) ?r0n1
           case h0n1=>(intro W hSw;(try dsimp only at hSw);go_simp;all_goals (with_reducible rfl))
           try simp only [Act.put,List.getElem_toArray,List.getElem_cons_zero,List.setIfInBounds_toArray,List.set_cons_zero,List.set_cons_succ]
           refine wpAnyH_take (i:=1) (v:=?v1n1) rfl (by kernel_rfl) (by kernel_rfl) (by kernel_rfl) (KeepQ.put (by decide) (by decide)) (Or.inl ⟨by rfl,?h1n1⟩) (by assumption) ?r1n1
           case h1n1=>(intro W hSw;(try dsimp only at hSw);go_simp;all_goals (with_reducible rfl))
           try simp only [Act.put,List.getElem_toArray,List.getElem_cons_zero,List.getElem_cons_succ,List.setIfInBounds_toArray,List.set_cons_zero,List.set_cons_succ]
           refine wpAnyH_take (i:=2) (v:=?v2n1) rfl (by kernel_rfl) (by kernel_rfl) (by kernel_rfl) (KeepQ.put (by decide) (by decide)) (Or.inl ⟨by rfl,?h2n1⟩) (by assumption) ?r2n1
           case h2n1=>(intro W hSw;(try dsimp only at hSw);go_simp;all_goals (with_reducible rfl))
           try simp only [Act.put,List.getElem_toArray,List.getElem_cons_zero,List.getElem_cons_succ,List.setIfInBounds_toArray,List.set_cons_zero,List.set_cons_succ]
           refine wpAnyH_take (i:=3) (v:=?v3n1) rfl (by kernel_rfl) (by kernel_rfl) (by kernel_rfl) (KeepQ.put (by decide) (by decide)) (Or.inl ⟨by rfl,?h3n1⟩) (by assumption) ?r3n1
           case h3n1=>(intro W hSw;(try dsimp only at hSw);go_simp;all_goals (with_reducible rfl))
           try simp only [Act.put,List.getElem_toArray,List.getElem_cons_zero,List.getElem_cons_succ,List.setIfInBounds_toArray,List.set_cons_zero,List.set_cons_succ]
           refine wpAnyH_take (i:=4) (v:=?v4n1) rfl (by kernel_rfl) (by kernel_rfl) (by kernel_rfl) (KeepQ.put (by decide) (by decide)) (Or.inl ⟨by rfl,?h4n1⟩) (by assumption) ?r4n1
           case h4n1=>(intro W hSw;(try dsimp only at hSw);go_simp;all_goals (with_reducible rfl))
           try simp only [Act.put,List.getElem_toArray,List.getElem_cons_zero,List.getElem_cons_succ,List.setIfInBounds_toArray,List.set_cons_zero,List.set_cons_succ]
           refine wpAnyH_take (i:=5) (v:=?v5n1) rfl (by kernel_rfl) (by kernel_rfl) (by kernel_rfl) (KeepQ.put (by decide) (by decide)) (Or.inl ⟨by rfl,?h5n1⟩) (by assumption) ?r5n1
           case h5n1=>(intro W hSw;(try dsimp only at hSw);go_simp;all_goals (with_reducible rfl))
           try simp only [Act.put,List.getElem_toArray,List.getElem_cons_zero,List.getElem_cons_succ,List.setIfInBounds_toArray,List.set_cons_zero,List.set_cons_succ]
           refine wpAnyH_ready (rs:=[6]) (by kernel_rfl) (by simp) ?_
           refine AllReadyH.cons rfl (fun KK hKK=>?_) AllReadyH.nil
           go_simp
           refine (next_bad R s c2 e 1099511627776 W9 HU3d.out.2.1 HS6.out hc2 (by decide) (by decide) H3.out he).mono ?_
           rintro r w10 ⟨rfl,hg10⟩
           have HU10:=Lib.hid (HU3d.out.1.kept hg10 (fun k hk=>by injection hk with hk;have:=HU3d.out.2.2.2.1;omega))
           refine ⟨⟨rfl,rfl⟩,fun a' e1 e2 e3=>?_⟩
           obtain ⟨tm,df⟩:=a'
           dsimp only at e1 e2 e3
           subst e3
           exact odoor_bad e (c2:Int) HU10.out he HRES.out tm e1 e2
         rw [List.length_drop,HSL.out] at hj3l
         obtain ⟨c3,hc3e⟩:∃ c3,c2 + j3=c3:=⟨_,rfl⟩
         have hc3:c3≤s.size:=by omega
         have H3:=Lib.hid h3
         have HJ3:=Lib.hid hj10
         have HC3:=Lib.hid hc3e
         have HUN2:Hid (unP s.data.toList k1 b []=unP s.data.toList q' c3 (L ++ [⟨(rn:Int),(tn:Int)⟩])):=Lib.hid (by rw [HUN.out,HQ.out,unP_ok H2.out (by rw [HC2.out];exact h3),HC2.out,hc3e])
         have HLL:Hid (L.length + 1≤1000000):=Lib.hid (by have:=HLQ.out;have:=HNV.out;have:=HK16.out;omega)
         have HLN:Hid (L.length + 1=nv + 1):=Lib.hid (by rw [HNV.out])
         have HLQ2:Hid ((L ++ [(⟨(rn:Int),(tn:Int)⟩:Ent)]).length + q'=k1):=Lib.hid (by rw [List.length_append];have:=HLQ.out;have:=HNV.out;have:=HQ.out;simp;omega)
         clear h3 hj10 hj3l hc3e ht40 b0 b1 b2
         go_wp2
         refine wp_region_noPanic ?_
         refine wp_region_held_drew (S:=(fun _=>True)) (by kernel_rfl) trivial (fun hHeld=>?_)
         generalize w3.drew=W9 at HU3d HP3d hHeld ⊢
         refine wpAnyH_take (i:=0) (v:=?v0g1) rfl (by kernel_rfl) (by kernel_rfl) (by kernel_rfl) (fun _ _ _ h=>h) (Or.inl ⟨by rfl,?h0g1⟩) (by assumption) ?r0g1
         case h0g1=>(intro W hSw;(try dsimp only at hSw);go_simp;all_goals (with_reducible rfl))
         try simp only [Act.put,List.getElem_toArray,List.getElem_cons_zero,List.setIfInBounds_toArray,List.set_cons_zero,List.set_cons_succ]
         refine wpAnyH_take (i:=1) (v:=?v1g1) rfl (by kernel_rfl) (by kernel_rfl) (by kernel_rfl) (fun _ _ _ h=>h) (Or.inl ⟨by rfl,?h1g1⟩) (by assumption) ?r1g1
         case h1g1=>(intro W hSw;(try dsimp only at hSw);go_simp;all_goals (with_reducible rfl))
         try simp only [Act.put,List.getElem_toArray,List.getElem_cons_zero,List.getElem_cons_succ,List.setIfInBounds_toArray,List.set_cons_zero,List.set_cons_succ]
         refine wpAnyH_take (i:=2) (v:=?v2g1) rfl (by kernel_rfl) (by kernel_rfl) (by kernel_rfl) (fun _ _ _ h=>h) (Or.inl ⟨by rfl,?h2g1⟩) (by assumption) ?r2g1
         case h2g1=>(intro W hSw;(try dsimp only at hSw);go_simp;all_goals (with_reducible rfl))
         try simp only [Act.put,List.getElem_toArray,List.getElem_cons_zero,List.getElem_cons_succ,List.setIfInBounds_toArray,List.set_cons_zero,List.set_cons_succ]
         refine wpAnyH_take (i:=4) (v:=?v4g1) rfl (by kernel_rfl) (by kernel_rfl) (by kernel_rfl) (fun _ _ _ h=>h) (Or.inl ⟨by rfl,?h4g1⟩) (by assumption) ?r4g1
         case h4g1=>(intro W hSw;(try dsimp only at hSw);go_simp;all_goals (with_reducible rfl))
         try simp only [Act.put,List.getElem_toArray,List.getElem_cons_zero,List.getElem_cons_succ,List.setIfInBounds_toArray,List.set_cons_zero,List.set_cons_succ]
         refine wpAnyH_take (i:=5) (v:=?v5g1) rfl (by kernel_rfl) (by kernel_rfl) (by kernel_rfl) (fun _ _ _ h=>h) (Or.inl ⟨by rfl,?h5g1⟩) (by assumption) ?r5g1
         case h5g1=>(intro W hSw;(try dsimp only at hSw);go_simp;all_goals (with_reducible rfl))
         try simp only [Act.put,List.getElem_toArray,List.getElem_cons_zero,List.getElem_cons_succ,List.setIfInBounds_toArray,List.set_cons_zero,List.set_cons_succ]
         refine wpAnyH_ready (rs:=[3,6]) (by kernel_rfl) (by simp) ?_
         refine AllReadyH.cons rfl (fun KK hKK=>?_) (AllReadyH.cons rfl (fun KK hKK=>?_) AllReadyH.nil)
         · obtain ⟨⟨q0,q1,q2⟩,_⟩:=HU3d.out.1.cells
           go_simp
           refine hKK.out _ _ trivial (fun hHeld=>?_)
           clear hKK q0 q1 q2
           try simp only [Act.put,List.getElem_toArray,List.getElem_cons_zero,List.getElem_cons_succ,List.setIfInBounds_toArray,List.set_cons_zero,List.set_cons_succ]
           refine wpAnyH_ready (rs:=[6]) (by kernel_rfl) (by simp) ?_
           refine AllReadyH.cons rfl (fun KK hKK=>?_) AllReadyH.nil
           go_simp
           refine (next_ok R s c2 tn j3 1099511627776 W9 HU3d.out.2.1 HS6.out hc2 (by decide) (by decide) H3.out HJ3.out).mono ?_
           rintro r w10 ⟨rfl,hs10,hg10⟩
           rw [HC3.out] at hs10
           have HU10:=Lib.hid (HU3d.out.next hs10 hg10)
           have HP10:=Lib.hid (HP3d.out.kept hg10 (by simp))
           clear hs10 hg10
           refine hKK.out _ _ trivial (fun hHeld=>?_)
           clear hKK
           try simp only [Act.put,List.getElem_toArray,List.getElem_cons_zero,List.getElem_cons_succ,List.setIfInBounds_toArray,List.set_cons_zero,List.set_cons_succ]
           refine wpAnyH_take (i:=7) (v:=?v7a1) rfl (by kernel_rfl) (by kernel_rfl) (by kernel_rfl) (fun _ _ _ h=>h) (Or.inl ⟨by rfl,?h7a1⟩) (by assumption) ?r7a1
           case h7a1=>(intro W hSw;(try dsimp only at hSw);go_simp;all_goals (with_reducible rfl))
           try simp only [Act.put,List.getElem_toArray,List.getElem_cons_zero,List.getElem_cons_succ,List.setIfInBounds_toArray,List.set_cons_zero,List.set_cons_succ]
           refine wpAnyH_ready (rs:=[8]) (by kernel_rfl) (by simp) ?_
           refine AllReadyH.cons rfl (fun KK hKK=>?_) AllReadyH.nil
           go_simp
           refine hKK.out _ _ trivial (fun hHeld=>?_)
           clear hKK
           try simp only [Act.put,List.getElem_toArray,List.getElem_cons_zero,List.getElem_cons_succ,List.setIfInBounds_toArray,List.set_cons_zero,List.set_cons_succ]
           have HUB:=Lib.hid (HU10.out.alloc (.cells #[.int .i64 (rn:Int),.int .i64 (tn:Int)] 74))
           have HPB:Hid (PT w.heap.size R (w10.alloc (.cells #[.int .i64 (rn:Int),.int .i64 (tn:Int)] 74))):=Lib.hid (HP10.out.below ((Below.refl _ _).alloc (Nat.le_refl _) _))
           have HLB:Hid (entBlk (w10.alloc (.cells #[.int .i64 (rn:Int),.int .i64 (tn:Int)] 74)) w10.heap.size ⟨(rn:Int),(tn:Int)⟩):=Lib.hid (entBlk_new _ _ _)
           generalize w10.alloc (.cells #[.int .i64 (rn:Int),.int .i64 (tn:Int)] 74)=WB at HUB HPB HLB hHeld ⊢
           generalize w10.heap.size=bl at HLB ⊢
           refine wpAnyH_ready (rs:=[9]) (by kernel_rfl) (by simp) ?_
           refine AllReadyH.cons rfl (fun KK hKK=>?_) AllReadyH.nil
           refine step_append_ent WB rfl _ _ rfl (R + 2) _ L rfl HUB.out.2.2.1.2.1 bl 1 rfl ⟨(rn:Int),(tn:Int)⟩ HLB.out HLL.out HUB.out.2.2.2.2 ?_
           intro g cap w14 ho14 hg14 hor14
           rw [HLN.out] at ho14
           rw [HLN.out]
           have HU14:=Lib.hid (HUB.out.addH HSEP.out ho14 hg14)
           have HP14:=Lib.hid (HPB.out.kept hg14 (fun e=>by have:=own_far HUB.out.2.2.1.2.1 _ e;omega))
           have hud:=HUB.out.1.kept hg14 (fun k hk=>by have:=own_far HUB.out.2.2.1.2.1 k hk;have:=HUB.out.2.2.2.1;omega)
           have HSEP2:Hid ((∀ j,(Value.slice (some ⟨g,0,none⟩) (nv + 1) cap).ownBlock=some j→vf.ownBlock≠some j)):=Lib.hid (sep_next HUB.out.2.2.1.1 HSEP.out hor14)
           clear ho14 hg14 hor14
           refine hKK.out _ _ trivial (fun hHeld=>?_)
           clear hKK
           try simp only [Act.put,List.getElem_toArray,List.getElem_cons_zero,List.getElem_cons_succ,List.setIfInBounds_toArray,List.set_cons_zero,List.set_cons_succ]
           refine wpAnyH_take (i:=10) (v:=?v10r1a) rfl (by kernel_rfl) (by kernel_rfl) (by kernel_rfl) (fun _ _ _ h=>h) (Or.inl ⟨by rfl,?h10r1a⟩) (by assumption) ?r10r1a
           case h10r1a=>(intro W hSw;(try dsimp only at hSw);go_simp;all_goals (with_reducible rfl))
           try simp only [Act.put,List.getElem_toArray,List.getElem_cons_zero,List.getElem_cons_succ,List.setIfInBounds_toArray,List.set_cons_zero,List.set_cons_succ]
           obtain ⟨⟨q0,q1,q2⟩,_,⟨z0,z1,z2⟩,_⟩:=hud.cells
           clear hud
           refine wpAnyH_ready (rs:=[11]) (by kernel_rfl) (by simp) ?_
           refine AllReadyH.cons rfl (fun KK hKK=>?_) AllReadyH.nil
           go_simp
           refine hKK.out _ _ trivial (fun hHeld=>?_)
           clear hKK q0 q1 q2 z0 z1 z2
           try simp only [Act.put,List.getElem_toArray,List.getElem_cons_zero,List.getElem_cons_succ,List.setIfInBounds_toArray,List.set_cons_zero,List.set_cons_succ]
           refine wpAnyH_done (by kernel_rfl) ?_ _
           refine NoPanic.normal ?_
           clear hHeld
           have HP15:=Lib.hid (HP14.out.kept (grown_setQ w14 w.heap.size 1 (.slice (some ⟨g,0,none⟩) (nv + 1) cap)) (by have:=HU14.out.2.2.2.1;simp;omega))
           generalize w14.setCell ⟨w.heap.size,1,none⟩ (.slice (some ⟨g,0,none⟩) (nv + 1) cap)=w15 at HU14 HP15 ⊢
           go_wp2
           go_roundw
           case rel=>exact ⟨q',c3,L ++ [⟨(rn:Int),(tn:Int)⟩],_,by go_num,hc3,HLQ2.out,HUN2.out,HU14.out,HP15.out,HSEP2.out⟩
           case measure=>have:=HQB.out;simp [intOf];omega
         · go_simp
           refine (next_ok R s c2 tn j3 1099511627776 W9 HU3d.out.2.1 HS6.out hc2 (by decide) (by decide) H3.out HJ3.out).mono ?_
           rintro r w10 ⟨rfl,hs10,hg10⟩
           rw [HC3.out] at hs10
           have HU10:=Lib.hid (HU3d.out.next hs10 hg10)
           have HP10:=Lib.hid (HP3d.out.kept hg10 (by simp))
           clear hs10 hg10
           refine hKK.out _ _ trivial (fun hHeld=>?_)
           clear hKK
           try simp only [Act.put,List.getElem_toArray,List.getElem_cons_zero,List.getElem_cons_succ,List.setIfInBounds_toArray,List.set_cons_zero,List.set_cons_succ]
           refine wpAnyH_take (i:=7) (v:=?v7b1) rfl (by kernel_rfl) (by kernel_rfl) (by kernel_rfl) (fun _ _ _ h=>h) (Or.inl ⟨by rfl,?h7b1⟩) (by assumption) ?r7b1
           case h7b1=>(intro W hSw;(try dsimp only at hSw);go_simp;all_goals (with_reducible rfl))
           try simp only [Act.put,List.getElem_toArray,List.getElem_cons_zero,List.getElem_cons_succ,List.setIfInBounds_toArray,List.set_cons_zero,List.set_cons_succ]
           refine wpAnyH_ready (rs:=[3,8]) (by kernel_rfl) (by simp) ?_
           refine AllReadyH.cons rfl (fun KK hKK=>?_) (AllReadyH.cons rfl (fun KK hKK=>?_) AllReadyH.nil)
           · obtain ⟨⟨q0,q1,q2⟩,_⟩:=HU10.out.1.cells
             go_simp
             refine hKK.out _ _ trivial (fun hHeld=>?_)
             clear hKK q0 q1 q2
             try simp only [Act.put,List.getElem_toArray,List.getElem_cons_zero,List.getElem_cons_succ,List.setIfInBounds_toArray,List.set_cons_zero,List.set_cons_succ]
             refine wpAnyH_ready (rs:=[8]) (by kernel_rfl) (by simp) ?_
             refine AllReadyH.cons rfl (fun KK hKK=>?_) AllReadyH.nil
             go_simp
             refine hKK.out _ _ trivial (fun hHeld=>?_)
             clear hKK
             try simp only [Act.put,List.getElem_toArray,List.getElem_cons_zero,List.getElem_cons_succ,List.setIfInBounds_toArray,List.set_cons_zero,List.set_cons_succ]
             have HUB:=Lib.hid (HU10.out.alloc (.cells #[.int .i64 (rn:Int),.int .i64 (tn:Int)] 74))
             have HPB:Hid (PT w.heap.size R (w10.alloc (.cells #[.int .i64 (rn:Int),.int .i64 (tn:Int)] 74))):=Lib.hid (HP10.out.below ((Below.refl _ _).alloc (Nat.le_refl _) _))
             have HLB:Hid (entBlk (w10.alloc (.cells #[.int .i64 (rn:Int),.int .i64 (tn:Int)] 74)) w10.heap.size ⟨(rn:Int),(tn:Int)⟩):=Lib.hid (entBlk_new _ _ _)
             generalize w10.alloc (.cells #[.int .i64 (rn:Int),.int .i64 (tn:Int)] 74)=WB at HUB HPB HLB hHeld ⊢
             generalize w10.heap.size=bl at HLB ⊢
             refine wpAnyH_ready (rs:=[9]) (by kernel_rfl) (by simp) ?_
             refine AllReadyH.cons rfl (fun KK hKK=>?_) AllReadyH.nil
             refine step_append_ent WB rfl _ _ rfl (R + 2) _ L rfl HUB.out.2.2.1.2.1 bl 1 rfl ⟨(rn:Int),(tn:Int)⟩ HLB.out HLL.out HUB.out.2.2.2.2 ?_
             intro g cap w14 ho14 hg14 hor14
             rw [HLN.out] at ho14
             rw [HLN.out]
             have HU14:=Lib.hid (HUB.out.addH HSEP.out ho14 hg14)
             have HP14:=Lib.hid (HPB.out.kept hg14 (fun e=>by have:=own_far HUB.out.2.2.1.2.1 _ e;omega))
             have hud:=HUB.out.1.kept hg14 (fun k hk=>by have:=own_far HUB.out.2.2.1.2.1 k hk;have:=HUB.out.2.2.2.1;omega)
             have HSEP2:Hid ((∀ j,(Value.slice (some ⟨g,0,none⟩) (nv + 1) cap).ownBlock=some j→vf.ownBlock≠some j)):=Lib.hid (sep_next HUB.out.2.2.1.1 HSEP.out hor14)
             clear ho14 hg14 hor14
             refine hKK.out _ _ trivial (fun hHeld=>?_)
             clear hKK
             try simp only [Act.put,List.getElem_toArray,List.getElem_cons_zero,List.getElem_cons_succ,List.setIfInBounds_toArray,List.set_cons_zero,List.set_cons_succ]
             refine wpAnyH_take (i:=10) (v:=?v10r1b) rfl (by kernel_rfl) (by kernel_rfl) (by kernel_rfl) (fun _ _ _ h=>h) (Or.inl ⟨by rfl,?h10r1b⟩) (by assumption) ?r10r1b
             case h10r1b=>(intro W hSw;(try dsimp only at hSw);go_simp;all_goals (with_reducible rfl))
             try simp only [Act.put,List.getElem_toArray,List.getElem_cons_zero,List.getElem_cons_succ,List.setIfInBounds_toArray,List.set_cons_zero,List.set_cons_succ]
             obtain ⟨⟨q0,q1,q2⟩,_,⟨z0,z1,z2⟩,_⟩:=hud.cells
             clear hud
             refine wpAnyH_ready (rs:=[11]) (by kernel_rfl) (by simp) ?_
             refine AllReadyH.cons rfl (fun KK hKK=>?_) AllReadyH.nil
             go_simp
             refine hKK.out _ _ trivial (fun hHeld=>?_)
             clear hKK q0 q1 q2 z0 z1 z2
             try simp only [Act.put,List.getElem_toArray,List.getElem_cons_zero,List.getElem_cons_succ,List.setIfInBounds_toArray,List.set_cons_zero,List.set_cons_succ]
             refine wpAnyH_done (by kernel_rfl) ?_ _
             refine NoPanic.normal ?_
             clear hHeld
             have HP15:=Lib.hid (HP14.out.kept (grown_setQ w14 w.heap.size 1 (.slice (some ⟨g,0,none⟩) (nv + 1) cap)) (by have:=HU14.out.2.2.2.1;simp;omega))
             generalize w14.setCell ⟨w.heap.size,1,none⟩ (.slice (some ⟨g,0,none⟩) (nv + 1) cap)=w15 at HU14 HP15 ⊢
             go_wp2
             go_roundw
             case rel=>exact ⟨q',c3,L ++ [⟨(rn:Int),(tn:Int)⟩],_,by go_num,hc3,HLQ2.out,HUN2.out,HU14.out,HP15.out,HSEP2.out⟩
             case measure=>have:=HQB.out;simp [intOf];omega
           · go_simp
             refine hKK.out _ _ trivial (fun hHeld=>?_)
             clear hKK
             try simp only [Act.put,List.getElem_toArray,List.getElem_cons_zero,List.getElem_cons_succ,List.setIfInBounds_toArray,List.set_cons_zero,List.set_cons_succ]
             have HUB:=Lib.hid (HU10.out.alloc (.cells #[.int .i64 (rn:Int),.int .i64 (tn:Int)] 74))
             have HPB:Hid (PT w.heap.size R (w10.alloc (.cells #[.int .i64 (rn:Int),.int .i64 (tn:Int)] 74))):=Lib.hid (HP10.out.below ((Below.refl _ _).alloc (Nat.le_refl _) _))
             have HLB:Hid (entBlk (w10.alloc (.cells #[.int .i64 (rn:Int),.int .i64 (tn:Int)] 74)) w10.heap.size ⟨(rn:Int),(tn:Int)⟩):=Lib.hid (entBlk_new _ _ _)
             generalize w10.alloc (.cells #[.int .i64 (rn:Int),.int .i64 (tn:Int)] 74)=WB at HUB HPB HLB hHeld ⊢
             generalize w10.heap.size=bl at HLB ⊢
             refine wpAnyH_ready (rs:=[3]) (by kernel_rfl) (by simp) ?_
             refine AllReadyH.cons rfl (fun KK hKK=>?_) AllReadyH.nil
             obtain ⟨⟨q0,q1,q2⟩,_⟩:=HUB.out.1.cells
             go_simp
             refine hKK.out _ _ trivial (fun hHeld=>?_)
             clear hKK q0 q1 q2
             try simp only [Act.put,List.getElem_toArray,List.getElem_cons_zero,List.getElem_cons_succ,List.setIfInBounds_toArray,List.set_cons_zero,List.set_cons_succ]
             refine wpAnyH_ready (rs:=[9]) (by kernel_rfl) (by simp) ?_
             refine AllReadyH.cons rfl (fun KK hKK=>?_) AllReadyH.nil
             refine step_append_ent WB rfl _ _ rfl (R + 2) _ L rfl HUB.out.2.2.1.2.1 bl 1 rfl ⟨(rn:Int),(tn:Int)⟩ HLB.out HLL.out HUB.out.2.2.2.2 ?_
             intro g cap w14 ho14 hg14 hor14
             rw [HLN.out] at ho14
             rw [HLN.out]
             have HU14:=Lib.hid (HUB.out.addH HSEP.out ho14 hg14)
             have HP14:=Lib.hid (HPB.out.kept hg14 (fun e=>by have:=own_far HUB.out.2.2.1.2.1 _ e;omega))
             have hud:=HUB.out.1.kept hg14 (fun k hk=>by have:=own_far HUB.out.2.2.1.2.1 k hk;have:=HUB.out.2.2.2.1;omega)
             have HSEP2:Hid ((∀ j,(Value.slice (some ⟨g,0,none⟩) (nv + 1) cap).ownBlock=some j→vf.ownBlock≠some j)):=Lib.hid (sep_next HUB.out.2.2.1.1 HSEP.out hor14)
             clear ho14 hg14 hor14
             refine hKK.out _ _ trivial (fun hHeld=>?_)
             clear hKK
             try simp only [Act.put,List.getElem_toArray,List.getElem_cons_zero,List.getElem_cons_succ,List.setIfInBounds_toArray,List.set_cons_zero,List.set_cons_succ]
             refine wpAnyH_take (i:=10) (v:=?v10r1c) rfl (by kernel_rfl) (by kernel_rfl) (by kernel_rfl) (fun _ _ _ h=>h) (Or.inl ⟨by rfl,?h10r1c⟩) (by assumption) ?r10r1c
             case h10r1c=>(intro W hSw;(try dsimp only at hSw);go_simp;all_goals (with_reducible rfl))
             try simp only [Act.put,List.getElem_toArray,List.getElem_cons_zero,List.getElem_cons_succ,List.setIfInBounds_toArray,List.set_cons_zero,List.set_cons_succ]
             obtain ⟨⟨q0,q1,q2⟩,_,⟨z0,z1,z2⟩,_⟩:=hud.cells
             clear hud
             refine wpAnyH_ready (rs:=[11]) (by kernel_rfl) (by simp) ?_
             refine AllReadyH.cons rfl (fun KK hKK=>?_) AllReadyH.nil
             go_simp
             refine hKK.out _ _ trivial (fun hHeld=>?_)
             clear hKK q0 q1 q2 z0 z1 z2
             try simp only [Act.put,List.getElem_toArray,List.getElem_cons_zero,List.getElem_cons_succ,List.setIfInBounds_toArray,List.set_cons_zero,List.set_cons_succ]
             refine wpAnyH_done (by kernel_rfl) ?_ _
             refine NoPanic.normal ?_
             clear hHeld
             have HP15:=Lib.hid (HP14.out.kept (grown_setQ w14 w.heap.size 1 (.slice (some ⟨g,0,none⟩) (nv + 1) cap)) (by have:=HU14.out.2.2.2.1;simp;omega))
             generalize w14.setCell ⟨w.heap.size,1,none⟩ (.slice (some ⟨g,0,none⟩) (nv + 1) cap)=w15 at HU14 HP15 ⊢
             go_wp2
             go_roundw
             case rel=>exact ⟨q',c3,L ++ [⟨(rn:Int),(tn:Int)⟩],_,by go_num,hc3,HLQ2.out,HUN2.out,HU14.out,HP15.out,HSEP2.out⟩
             case measure=>have:=HQB.out;simp [intOf];omega
       · obtain rfl:q=0:=by omega
         have hq0:¬ ((0:Int) < ((0:Nat):Int)):=by omega
         go_wp2
         go_roundw
         case rel=>exact ⟨2,c,f,L,vf,.slice av nv cv,by omega,by go_num,.inr (.inr ⟨rfl,a,HF.out,by rw [HUE.out,HUN.out];rfl⟩),hc,HUV.out,HPV.out,fun h=>absurd h (by decide),fun h=>absurd h (by decide)⟩
         case measure=>simp [intOf]
   · clear hk hv0 hv1 pt
     have HUS:=Lib.hid us
     have H1:=Lib.hid h1
     have H2:=Lib.hid h2
     have hnn:=(unE_only (Nat.zero_le _) h1).2.1
     have HRF:Hid (f.length≤16):=Lib.hid (unE_len (Nat.zero_le _) h1)
     have HRH:Hid (h.length≤16):=Lib.hid (unE_len hnn h2)
     clear us h1 h2 hnn
     rcases intL_cases (s.data.toList.drop a) 60 with ⟨e,h3,he,_⟩ | ⟨k2,j2,h3,hk2,_,hj10,hj2l,_⟩
     · have HRES:=Lib.hid (HOB.out (unO_many H1.out H2.out h3 he))
       have H3:=Lib.hid h3
       clear h3
       go_wp2_with fail
       refine (next_bad R s a e 60 wr HUS.out.2.1 HS6.out ha (by decide) (by decide) H3.out he).mono ?_
       rintro r w2 ⟨rfl,hg2⟩
       exact odoor_bad e (a:Int) (HUS.out.1.kept hg2 (fun k hk=>by injection hk with hk;have:=HUS.out.2.2.2.1;omega)) he HRES.out _ rfl rfl
     rw [List.length_drop,HSL.out] at hj2l
     obtain ⟨b2,hb2⟩:∃ b2,a + j2=b2:=⟨_,rfl⟩
     have hb2s:b2≤s.size:=by omega
     have H3:=Lib.hid h3
     have HJ2:=Lib.hid hj10
     have HB2E:=Lib.hid hb2
     have HK2:Hid (k2≤60):=Lib.hid (by omega)
     clear h3 hb2 hj2l hj10 hk2
     go_wp2_with fail
     refine (next_ok R s a k2 j2 60 wr HUS.out.2.1 HS6.out ha (by decide) (by decide) H3.out HJ2.out).mono ?_
     rintro r w2 ⟨rfl,hs2,hg2⟩
     rw [HB2E.out] at hs2
     have HU5:=Lib.hid (HUS.out.next hs2 hg2)
     clear hs2 hg2 HUS ha
     go_wp2
     go_loopw [13] (fun kv wr=>∃ (q c:Nat) (W:List Wr) (vw:Value),kv=.int .i64 q∧c≤s.size∧W.length + q=k2∧unVs s.data.toList k2 b2 []=unVs s.data.toList q c W∧(∀ t∈W,WrOk t)∧US w R s c vf vh (.slice none 0 0) (.slice none 0 0) vw f h [] [] W wr) (fun kv _=>(intOf kv).toNat)
     case atStart=>exact ⟨k2,b2,[],.slice none 0 0,rfl,hb2s,by simp,rfl,(by intro t ht;simp at ht),HU5.out⟩
     case round =>
       obtain ⟨q,c3,W,vw,rfl,hc3,hWq,huw,hwo,us⟩:=hrel
       obtain ⟨aw,cw,rfl,_⟩:=us.2.2.1.2.2.2.2.is.form
       obtain ⟨nw,hnw⟩:∃ nw,nw=W.length:=⟨_,rfl⟩
       rw [←hnw] at us
       have HUS:=Lib.hid us
       have HUW:=Lib.hid huw
       have HNW:=Lib.hid hnw
       have HWO:=Lib.hid hwo
       have HWQ:Hid (nw + q=k2∧k2≤60):=Lib.hid ⟨by rw [hnw];exact hWq,HK2.out⟩
       clear us huw hnw hWq hwo HU5
       obtain ⟨s0c,s1,sz,sl⟩:=HUS.out.2.1.cells
       by_cases hq:0 < q
       · obtain ⟨q',hq'⟩:∃ q',q=q' + 1:=⟨q - 1,by omega⟩
         have HQ:=Lib.hid hq'
         have hq60:q≤60:=by have:=HWQ.out;omega
         have hq0:(0:Int) < (q:Int):=by omega
         have hq1:IntKind.i64.wrap ((q:Int) - 1)=(q':Int):=by rw [show (q:Int) - 1=(q':Int) by omega];exact IntWalk.i64_in _ (by omega)
         have hq2:IntKind.i64.wrap (q':Int)=(q':Int):=IntWalk.i64_in _ (by omega)
         have HQB:Hid (q' < q∧q≤60):=Lib.hid (by omega)
         have HWR:Hid (∀ {e:Nat},unV s.data.toList c3=.inl e→oldF s0.data.toList=.inl (e,-1)):=Lib.hid (fun hx=>HOB.out (unO_write1 H1.out H2.out H3.out (by rw [HB2E.out,HUW.out,HQ.out,unVs_bad hx])))
         clear hq'
         by_cases hend:c3=s.size
         · have HRES:Hid (oldF s0.data.toList=.inl (7,-1)):=Lib.hid (HWR.out (unV_kind (e:=7) (K:=0) (j:=0) (by rw [List.drop_of_length_le (by rw [HSL.out];omega)];rfl) (by decide)))
           have hbe:((c3:Int) == (s.size:Int))=true:=by simp;omega
           go_wp2_with fail
           refine (throw_any 7 _ _).mono ?_
           rintro r w' ⟨rfl,rfl⟩
           exact odoor_bad 7 _ HUS.out.1 (by decide) HRES.out _ rfl rfl
         have hlt:c3 < s.size:=by omega
         have hbe:((c3:Int) == (s.size:Int))=false:=by simp;omega
         have hlt2:(c3:Int) < (s.size:Int):=by omega
         have hge0:(0:Int)≤(c3:Int):=by omega
         obtain ⟨x,hx⟩:∃ x,s[c3]=x:=⟨_,rfl⟩
         have hdrop:s.data.toList.drop c3=x :: s.data.toList.drop (c3 + 1):=by
           have h2:c3 < s.data.toList.length:=by rw [HSL.out];exact hlt
           have h3:=List.drop_eq_getElem_cons h2
           have h4 : s.data.toList[c3]'h2 = x := hx
           rw [h4] at h3
           exact h3
         obtain ⟨K,hK⟩:∃ K:Int,(x.toNat:Int)=K:=⟨_,rfl⟩
         have hK0:0≤K:=by omega
         have hK1:K≤255:=by have:=x.toNat_lt;omega
         have hkw:IntKind.i64.wrap K=K:=IntWalk.i64_in _ (by omega)
         have HDR:=Lib.hid hdrop
         have HKK:=Lib.hid hK
         clear hdrop
         obtain ⟨X,hX⟩:∃ X,wr.heap.size=X:=⟨_,rfl⟩
         have HUA:=Lib.hid (HUS.out.alloc (.cells #[.int .i64 0,.int .i64 0,.int .i64 K,.string ⟨#[]⟩,.string ⟨#[]⟩,.int .i64 0] 59))
         have HXA:Hid ((wr.alloc (.cells #[.int .i64 0,.int .i64 0,.int .i64 K,.string ⟨#[]⟩,.string ⟨#[]⟩,.int .i64 0] 59)).heap[X]? = some (.cells #[.int .i64 0,.int .i64 0,.int .i64 K,.string ⟨#[]⟩,.string ⟨#[]⟩,.int .i64 0] 59 (0,0))):=Lib.hid (by rw [←hX];exact heap_alloc_new wr _)
         have HXR:Hid (R + 2≤X):=Lib.hid (by rw [←hX];exact HUS.out.2.2.2.2)
         have HVX:Hid ((Value.slice aw nw cw).ownBlock≠some X):=Lib.hid (fun e=>by have:=(World.ownsRow.lt HUS.out.2.2.1.2.2.2.2 X e).2;omega)
         by_cases hkb:x.toNat < 1∨4 < x.toNat
         · have HRES:=Lib.hid (HWR.out (unV_kind (e:=1) (K:=0) (j:=0) (by rw [HDR.out];exact if_pos hkb) (by decide)))
           have HW1:Hid (∀ w:World,Calls Tryz.prog 78 #[.int .i64 K,.int .i64 1,.int .i64 4] w fun e w'=>e=.returned (.bool false)∧w=w'):=Lib.hid (fun w=>by
             by_cases h1:K < 1
             · exact within_low K 1 4 w h1
             · exact within_high K 1 4 w (by omega) (by omega))
           rw [hX] at *
           go_wp2_with fail
           refine (HW1.out _).mono ?_
           rintro r w' ⟨rfl,rfl⟩
           obtain ⟨y0,y1,yz,yl⟩:=HUA.out.2.1.cells
           go_wp2_with fail
           refine (throw_any 1 (c3:Int) _).mono ?_
           rintro r w' ⟨rfl,rfl⟩
           exact odoor_bad 1 (c3:Int) HUA.out.1 (by decide) HRES.out _ rfl rfl
         have hkg1:1≤K:=by omega
         have hkg2:K≤4:=by omega
         have HKF:Hid (kindF (s.data.toList.drop c3)=(x.toNat,1,0)):=Lib.hid (by rw [HDR.out];exact if_neg hkb)
         obtain ⟨c4,hc4e⟩:∃ c4,c4=c3 + 1:=⟨_,rfl⟩
         have hc4:c4≤s.size:=by omega
         have HC4:=Lib.hid hc4e
         have kw4:IntKind.i64.wrap ((c3:Int) + 1)=(c4:Int):=by rw [show (c3:Int) + 1=(c4:Int) by omega];exact IntWalk.i64_in _ (by omega)
         clear hc4e hkb
         go_wp2_with fail
         refine (within_yes K 1 4 _ hkg1 hkg2).mono ?_
         rintro r w' ⟨rfl,rfl⟩
         generalize wr.alloc (.cells #[.int .i64 0,.int .i64 0,.int .i64 K,.string ⟨#[]⟩,.string ⟨#[]⟩,.int .i64 0] 59)=w5 at HUA HXA ⊢
         clear hX s0c s1 sz sl hx
         obtain ⟨s0c,s1,sz,sl⟩:=HUA.out.2.1.cells
         have HU6:=Lib.hid (HUA.out.go (b:=c4))
         have HX6:=Lib.hid (row_setCell (R:=R) (o:=1) HXA.out (by have:=HXR.out;omega) (.int .i64 (c4:Int)))
         rcases intL_cases (s.data.toList.drop c4) 1099511627776 with ⟨e,hi,he,_⟩ | ⟨t,k1t,hi,ht40,_,hk10,hkl,_⟩
         · have HRES:=Lib.hid (HWR.out (unV_time HKF.out (by rw [←HC4.out];exact hi) he))
           have HI:=Lib.hid hi
           clear hi
           go_wp2_with fail
           refine (next_bad R s c4 e 1099511627776 _ HU6.out.2.1 HS6.out hc4 (by decide) (by decide) HI.out he).mono ?_
           rintro r w7 ⟨rfl,hg7⟩
           exact odoor_bad e (c4:Int) (HU6.out.1.kept hg7 (fun k hk=>by injection hk with hk;have:=HU6.out.2.2.2.1;omega)) he HRES.out _ rfl rfl
         rw [List.length_drop,HSL.out] at hkl
         obtain ⟨A2,hA2⟩:∃ A2:Int,(t:Int)=A2:=⟨_,rfl⟩
         obtain ⟨c5,hc5e⟩:∃ c5,c4 + k1t=c5:=⟨_,rfl⟩
         have hc5:c5≤s.size:=by omega
         have HT0:Hid (intL (s.data.toList.drop (c3 + 1)) 1099511627776=(t,k1t,0)):=Lib.hid (by rw [←HC4.out];exact hi)
         have HI:=Lib.hid hi
         have HK10:=Lib.hid hk10
         have HC5:=Lib.hid hc5e
         have HA2:=Lib.hid hA2
         clear hi hkl hk10 hc5e ht40
         go_wp2_with fail
         refine (next_ok R s c4 t k1t 1099511627776 _ HU6.out.2.1 HS6.out hc4 (by decide) (by decide) HI.out HK10.out).mono ?_
         rintro r w9 ⟨rfl,hs9,hg9⟩
         rw [HC5.out] at hs9
         rw [HA2.out]
         have HU9:=Lib.hid (HU6.out.next hs9 hg9)
         have HX9:=Lib.hid ((hg9.block X (Array.getElem?_eq_some_iff.1 HX6.out).1 (by have:=HXR.out;simp;omega)).trans HX6.out)
         clear hs9 hg9 s0c s1 sz sl HU6 HX6 HUA HXA hge0 hlt2 hlt hend hbe
         obtain ⟨x0,_,_,_,_,_⟩:=row_at HX9.out
         obtain ⟨v0,_,_,_,_,_⟩:=free_row HX9.out
         have HU10:=Lib.hid (HU9.out.store (o:=0) (x:=.int .i64 A2) HX9.out HXR.out HVX.out)
         have HX10:Hid ((w9.setCell ⟨X,0,none⟩ (.int .i64 A2)).heap[X]? = some (.cells #[.int .i64 A2,.int .i64 0,.int .i64 K,.string ⟨#[]⟩,.string ⟨#[]⟩,.int .i64 0] 59 (0,0))):=Lib.hid (heap_setCell_same _ X 0 _ _ _ HX9.out)
         rcases intL_cases (s.data.toList.drop c5) 200 with ⟨e,h6,he,_⟩ | ⟨p,k2r,h6,hp,_,hk2r,hk2l,_⟩
         · have HRES:=Lib.hid (HWR.out (unV_rep HKF.out HT0.out (by rw [show c3 + 1 + k1t=c5 by have:=HC4.out;have:=HC5.out;omega];exact h6) he))
           have H6:=Lib.hid h6
           clear h6
           go_wp2_with fail
           refine (next_bad R s c5 e 200 _ HU10.out.2.1 HS6.out hc5 (by decide) (by decide) H6.out he).mono ?_
           rintro r w7 ⟨rfl,hg7⟩
           exact odoor_bad e (c5:Int) (HU10.out.1.kept hg7 (fun k hk=>by injection hk with hk;have:=HU10.out.2.2.2.1;omega)) he HRES.out _ rfl rfl
         rw [List.length_drop,HSL.out] at hk2l
         obtain ⟨c6,hc6e⟩:∃ c6,c5 + k2r=c6:=⟨_,rfl⟩
         have hc6:c6≤s.size:=by omega
         obtain ⟨rep,hrep⟩:∃ rep:Int,(p:Int)=rep:=⟨_,rfl⟩
         have HP1:Hid (intL (s.data.toList.drop (c3 + 1 + k1t)) 200=(p,k2r,0)):=Lib.hid (by rw [show c3 + 1 + k1t=c5 by have:=HC4.out;have:=HC5.out;omega];exact h6)
         have H6:=Lib.hid h6
         have HK2R:=Lib.hid hk2r
         have HC6:=Lib.hid hc6e
         have HREP:=Lib.hid hrep
         clear h6 hk2r hk2l hc6e hp
         go_wp2_with fail
         refine (next_ok R s c5 p k2r 200 _ HU10.out.2.1 HS6.out hc5 (by decide) (by decide) H6.out HK2R.out).mono ?_
         rintro r w11 ⟨rfl,hs11,hg11⟩
         rw [HC6.out] at hs11
         rw [HREP.out]
         have HU11:=Lib.hid (HU10.out.next hs11 hg11)
         have HX11:=Lib.hid ((hg11.block X (Array.getElem?_eq_some_iff.1 HX10.out).1 (by have:=HXR.out;simp;omega)).trans HX10.out)
         clear hs11 hg11 x0 v0 HU9 HX9 HU10 HX10
         obtain ⟨_,x1,_,_,_,_⟩:=row_at HX11.out
         obtain ⟨_,v1,_,_,_,_⟩:=free_row HX11.out
         have HU12:=Lib.hid (HU11.out.store (o:=1) (x:=.int .i64 rep) HX11.out HXR.out HVX.out)
         have HX12:Hid ((w11.setCell ⟨X,1,none⟩ (.int .i64 rep)).heap[X]? = some (.cells #[.int .i64 A2,.int .i64 rep,.int .i64 K,.string ⟨#[]⟩,.string ⟨#[]⟩,.int .i64 0] 59 (0,0))):=Lib.hid (heap_setCell_same _ X 1 _ _ _ HX11.out)
         obtain ⟨y0,y1,yz,yl⟩:=HU12.out.2.1.cells
         have d3:(0:Int)≤(c6:Int):=by omega
         have d4:(c6:Int)≤(s.size:Int):=by omega
         obtain ⟨tl,n2,e,hg⟩:∃ t n e,getS (s.data.toList.drop c6)=(t,n,e):=⟨_,_,_,rfl⟩
         have HG6:Hid (getS (s.data.toList.drop (c3 + 1 + k1t + k2r))=(tl,n2,e)):=Lib.hid (by rw [show c3 + 1 + k1t + k2r=c6 by have:=HC4.out;have:=HC5.out;have:=HC6.out;omega];exact hg)
         by_cases he:e=0
         rotate_left
         · have HRES:=Lib.hid (HWR.out (unV_key HKF.out HT0.out HP1.out HG6.out he))
           have HG:=Lib.hid hg
           have hne:((e:Int) != 0)=true:=by simp;omega
           clear hg
           go_wp2_with fail
           refine (runspan_bad (s.extract c6 s.size) n2 e _ (Nat.le_trans ext_le (by have:=HS6.out;omega)) (ext_dropV s c6) HG.out).mono ?_
           rintro r w' ⟨⟨XX,rfl⟩,rfl⟩
           go_wp2_with fail
           refine (throw_any e (c6:Int) _).mono ?_
           rintro r w' ⟨rfl,rfl⟩
           exact odoor_bad e (c6:Int) HU12.out.1 he HRES.out _ rfl rfl
         subst he
         obtain ⟨g1,g2,g3,g4⟩:=wspan_only hg
         rw [List.length_drop,HSL.out] at g2
         obtain ⟨key,hkey⟩:∃ key:ByteArray,key=⟨tl.toArray⟩:=⟨_,rfl⟩
         have HKS:Hid (key.size≤140737488351232):=Lib.hid (by rw [hkey,bs_size];omega)
         obtain ⟨c7,hc7e⟩:∃ c7,c6 + n2=c7:=⟨_,rfl⟩
         have hc7:c7≤s.size:=by omega
         have kw7:IntKind.i64.wrap ((c6:Int) + (n2:Int))=(c7:Int):=by rw [show (c6:Int) + (n2:Int)=(c7:Int) by omega];exact IntWalk.i64_in _ (by omega)
         have HG:=Lib.hid hg
         have HKEYX:=Lib.hid hkey
         have HKEY:Hid ((⟨tl.toArray⟩:ByteArray)=key):=Lib.hid hkey.symm
         have HPOS:Hid (c3 + 1 + k1t + k2r + n2=c7):=Lib.hid (by have:=HC4.out;have:=HC5.out;have:=HC6.out;omega)
         have hz0:((0:Int) != 0)=false:=rfl
         clear hg hkey hc7e g1 g2 g3 g4
         go_wp2_with fail
         refine (runspan_ok (s.extract c6 s.size) key n2 _ (Nat.le_trans ext_le (by have:=HS6.out;omega)) (ext_dropV s c6) HG.out HKEYX.out).mono ?_
         rintro r w' ⟨rfl,rfl⟩
         clear x1 v1
         generalize w11.setCell ⟨X,1,none⟩ (.int .i64 rep)=w12 at HU12 HX12 y0 y1 yz yl ⊢
         clear HU11 HX11
         obtain ⟨_,_,_,x3,_,_⟩:=row_at HX12.out
         obtain ⟨_,_,_,v3,_,_⟩:=free_row HX12.out
         have HU13:=Lib.hid (HU12.out.store (o:=3) (x:=.string key) HX12.out HXR.out HVX.out)
         have HX13:Hid ((w12.setCell ⟨X,3,none⟩ (.string key)).heap[X]? = some (.cells #[.int .i64 A2,.int .i64 rep,.int .i64 K,.string key,.string ⟨#[]⟩,.int .i64 0] 59 (0,0))):=Lib.hid (heap_setCell_same _ X 3 _ _ _ HX12.out)
         obtain ⟨u0,u1,uz,ul⟩:=HU13.out.2.1.cells
         have HU15:=Lib.hid (HU13.out.go (b:=c7))
         have HX15:=Lib.hid (row_setCell (R:=R) (o:=1) HX13.out (by have:=HXR.out;omega) (.int .i64 (c7:Int)))
         obtain ⟨e,hF⟩:∃ e,fillE A2 rep K key (s.data.toList.drop c7)=e:=⟨_,rfl⟩
         have HFU:Hid (fillE (t:Int) (p:Int) (x.toNat:Int) ⟨tl.toArray⟩ (s.data.toList.drop (c3 + 1 + k1t + k2r + n2))=e):=Lib.hid (by rw [HA2.out,HREP.out,HKK.out,HKEY.out,HPOS.out];exact hF)
         have HF0:Hid (fillE A2 rep K key (s.extract c7 s.size).data.toList=e):=Lib.hid (by rw [ext_dropV];exact hF)
         have HSX:Hid ((s.extract c7 s.size).size≤140737488351232):=Lib.hid (Nat.le_trans ext_le (by have:=HS6.out;omega))
         have d7:(0:Int)≤(c7:Int):=by omega
         have d8:(c7:Int)≤(s.size:Int):=by omega
         go_wp2
         clear x3 v3 u0 u1 uz ul y0 y1 yz yl
         generalize (w12.setCell ⟨X,3,none⟩ (.string key)).setCell ⟨R,1,none⟩ (.int .i64 (c7:Int))=w15 at HU15 HX15 ⊢
         clear HU12 HX12 HU13 HX13
         have HU15d:=Lib.hid HU15.out.drew
         have HX15d:Hid (w15.drew.heap[X]? = some (.cells #[.int .i64 A2,.int .i64 rep,.int .i64 K,.string key,.string ⟨#[]⟩,.int .i64 0] 59 (0,0))):=Lib.hid HX15.out
         by_cases he:e=0
         rotate_left
         · have HRES:=Lib.hid (HWR.out (unV_fill HKF.out HT0.out HP1.out HG6.out HFU.out he))
           have hne:((e:Int) != 0)=true:=by simp;omega
           clear hF
           go_wp2
           refine wp_region_noPanic ?_
           refine wp_region_held_drew (S:=(fun w'=>w'.cell? ⟨R,1,none⟩=some (.int .i64 (c7:Int)))) (by kernel_rfl) HU15d.out.2.1.cells.2.1 (fun hHeld=>?_)
           generalize w15.drew=W15 at HU15d HX15d hHeld ⊢
           refine wpAnyH_take (i:=1) (v:=?v1z) rfl (by kernel_rfl) (by kernel_rfl) (by kernel_rfl) (fun _ _ _ h=>h) (Or.inl ⟨by rfl,?h1z⟩) (by assumption) ?r1z
           case h1z=>(intro W hSw;(try dsimp only at hSw);go_simp;all_goals (with_reducible rfl))
           try simp only [Act.put,List.getElem_toArray,List.getElem_cons_zero,List.getElem_cons_succ,List.setIfInBounds_toArray,List.set_cons_zero,List.set_cons_succ]
           refine wpAnyH_take (i:=2) (v:=?v2z) rfl (by kernel_rfl) (by kernel_rfl) (by kernel_rfl) (fun _ _ _ h=>h) (Or.inl ⟨by rfl,?h2z⟩) (by assumption) ?r2z
           case h2z=>(intro W hSw;(try dsimp only at hSw);go_simp;all_goals (with_reducible rfl))
           try simp only [Act.put,List.getElem_toArray,List.getElem_cons_zero,List.getElem_cons_succ,List.setIfInBounds_toArray,List.set_cons_zero,List.set_cons_succ]
           refine wpAnyH_take (i:=3) (v:=?v3z) rfl (by kernel_rfl) (by kernel_rfl) (by kernel_rfl) (fun _ _ _ h=>h) (Or.inl ⟨by rfl,?h3z⟩) (by assumption) ?r3z
           case h3z=>(intro W hSw;(try dsimp only at hSw);go_simp;all_goals (with_reducible rfl))
           try simp only [Act.put,List.getElem_toArray,List.getElem_cons_zero,List.getElem_cons_succ,List.setIfInBounds_toArray,List.set_cons_zero,List.set_cons_succ]
           refine wpAnyH_take (i:=4) (v:=?v4z) rfl (by kernel_rfl) (by kernel_rfl) (by kernel_rfl) (fun _ _ _ h=>h) (Or.inl ⟨by rfl,?h4z⟩) (by assumption) ?r4z
           case h4z=>(intro W hSw;(try dsimp only at hSw);go_simp;all_goals (with_reducible rfl))
           try simp only [Act.put,List.getElem_toArray,List.getElem_cons_zero,List.getElem_cons_succ,List.setIfInBounds_toArray,List.set_cons_zero,List.set_cons_succ]
           refine wpAnyH_take (i:=5) (v:=?v5z) rfl (by kernel_rfl) (by kernel_rfl) (by kernel_rfl) (fun _ _ _ h=>h) (Or.inl ⟨by rfl,?h5z⟩) (by assumption) ?r5z
           case h5z=>(intro W hSw;(try dsimp only at hSw);go_simp;all_goals (with_reducible rfl))
           try simp only [Act.put,List.getElem_toArray,List.getElem_cons_zero,List.getElem_cons_succ,List.setIfInBounds_toArray,List.set_cons_zero,List.set_cons_succ]
           refine wpAnyH_take (i:=6) (v:=?v6z) rfl (by kernel_rfl) (by kernel_rfl) (by kernel_rfl) (fun _ _ _ h=>h) (Or.inl ⟨by rfl,?h6z⟩) (by assumption) ?r6z
           case h6z=>(intro W hSw;(try dsimp only at hSw);go_simp;all_goals (with_reducible rfl))
           try simp only [Act.put,List.getElem_toArray,List.getElem_cons_zero,List.getElem_cons_succ,List.setIfInBounds_toArray,List.set_cons_zero,List.set_cons_succ]
           obtain ⟨x0,x1,x2,x3,x4,x5⟩:=row_at HX15d.out
           refine wpAnyH_ready (rs:=[0]) (by kernel_rfl) (by simp) ?_
           refine AllReadyH.cons rfl (fun KK hKK=>?_) AllReadyH.nil
           go_simp
           refine hKK.out _ _ HU15d.out.2.1.cells.2.1 (fun hHeld2=>?_)
           clear hKK hHeld x0 x1 x2 x3 x4 x5
           try simp only [Act.put,List.getElem_toArray,List.getElem_cons_zero,List.getElem_cons_succ,List.setIfInBounds_toArray,List.set_cons_zero,List.set_cons_succ]
           refine wpAnyH_ready (rs:=[7]) (by kernel_rfl) (by simp) ?_
           refine AllReadyH.cons rfl (fun KK hKK=>?_) AllReadyH.nil
           go_simp
           refine (rfill_bad A2 rep K key (s.extract c7 s.size) e W15 HKS.out HSX.out HF0.out he).mono ?_
           rintro r w16 ⟨rfl,hb16⟩
           have HU16:=Lib.hid (HU15d.out.below hb16)
           have HX16:=Lib.hid ((hb16.block X (Array.getElem?_eq_some_iff.1 HX15d.out).1).trans HX15d.out)
           clear hb16
           refine hKK.out _ _ HU16.out.2.1.cells.2.1 (fun hHeld3=>?_)
           clear hKK hHeld2
           try simp only [Act.put,List.getElem_toArray,List.getElem_cons_zero,List.getElem_cons_succ,List.setIfInBounds_toArray,List.set_cons_zero,List.set_cons_succ]
           refine wpAnyH_take (i:=8) (v:=?v8z) rfl (by kernel_rfl) (by kernel_rfl) (by kernel_rfl) (fun _ _ _ h=>h) (Or.inl ⟨by rfl,?h8z⟩) (by assumption) ?r8z
           case h8z=>(intro W hSw;(try dsimp only at hSw);go_simp;all_goals (with_reducible rfl))
           try simp only [Act.put,List.getElem_toArray,List.getElem_cons_zero,List.getElem_cons_succ,List.setIfInBounds_toArray,List.set_cons_zero,List.set_cons_succ]
           refine wpAnyH_take (i:=9) (v:=?v9z) rfl (by kernel_rfl) (by kernel_rfl) (by kernel_rfl) (fun _ _ _ h=>h) (Or.inl ⟨by rfl,?h9z⟩) (by assumption) ?r9z
           case h9z=>(intro W hSw;(try dsimp only at hSw);go_simp;all_goals (with_reducible rfl))
           try simp only [Act.put,List.getElem_toArray,List.getElem_cons_zero,List.getElem_cons_succ,List.setIfInBounds_toArray,List.set_cons_zero,List.set_cons_succ]
           refine wpAnyH_take (i:=10) (v:=?v10z) rfl (by kernel_rfl) (by kernel_rfl) (by kernel_rfl) (fun _ _ _ h=>h) (Or.inl ⟨by rfl,?h10z⟩) (by assumption) ?r10z
           case h10z=>(intro W hSw;(try dsimp only at hSw);go_simp;all_goals (with_reducible rfl))
           try simp only [Act.put,List.getElem_toArray,List.getElem_cons_zero,List.getElem_cons_succ,List.setIfInBounds_toArray,List.set_cons_zero,List.set_cons_succ]
           refine wpAnyH_take (i:=11) (v:=?v11z) rfl (by kernel_rfl) (by kernel_rfl) (by kernel_rfl) (fun _ _ _ h=>h) (Or.inl ⟨by rfl,?h11z⟩) (by assumption) ?r11z
           case h11z=>(intro W hSw;(try dsimp only at hSw);go_simp;all_goals (with_reducible rfl))
           try simp only [Act.put,List.getElem_toArray,List.getElem_cons_zero,List.getElem_cons_succ,List.setIfInBounds_toArray,List.set_cons_zero,List.set_cons_succ]
           obtain ⟨x0,x1,x2,x3,x4,x5⟩:=row_at HX16.out
           obtain ⟨v0,v1,v2,v3,v4,v5⟩:=free_row HX16.out
           have HU17:=Lib.hid ((((((HU16.out.store (o:=0) (x:=.int .i64 0) HX16.out HXR.out HVX.out).store (o:=1) (x:=.int .i64 0) (heap_setCell_same _ X 0 _ _ _ HX16.out) HXR.out HVX.out).store (o:=2) (x:=.int .i64 0) (heap_setCell_same _ X 1 _ _ _ (heap_setCell_same _ X 0 _ _ _ HX16.out)) HXR.out HVX.out).store (o:=3) (x:=.string ⟨#[]⟩) (heap_setCell_same _ X 2 _ _ _ (heap_setCell_same _ X 1 _ _ _ (heap_setCell_same _ X 0 _ _ _ HX16.out))) HXR.out HVX.out).store (o:=4) (x:=.string ⟨#[]⟩) (heap_setCell_same _ X 3 _ _ _ (heap_setCell_same _ X 2 _ _ _ (heap_setCell_same _ X 1 _ _ _ (heap_setCell_same _ X 0 _ _ _ HX16.out)))) HXR.out HVX.out).store (o:=5) (x:=.int .i64 0) (heap_setCell_same _ X 4 _ _ _ (heap_setCell_same _ X 3 _ _ _ (heap_setCell_same _ X 2 _ _ _ (heap_setCell_same _ X 1 _ _ _ (heap_setCell_same _ X 0 _ _ _ HX16.out))))) HXR.out HVX.out)
           have HX17:Hid (((((((w16.setCell ⟨X,0,none⟩ (.int .i64 0)).setCell ⟨X,1,none⟩ (.int .i64 0)).setCell ⟨X,2,none⟩ (.int .i64 0)).setCell ⟨X,3,none⟩ (.string ⟨#[]⟩)).setCell ⟨X,4,none⟩ (.string ⟨#[]⟩)).setCell ⟨X,5,none⟩ (.int .i64 0)).heap[X]? = some (.cells #[.int .i64 0,.int .i64 0,.int .i64 0,.string ⟨#[]⟩,.string ⟨#[]⟩,.int .i64 0] 59 (0,0))):=Lib.hid (heap_setCell_same _ X 5 _ _ _ (heap_setCell_same _ X 4 _ _ _ (heap_setCell_same _ X 3 _ _ _ (heap_setCell_same _ X 2 _ _ _ (heap_setCell_same _ X 1 _ _ _ (heap_setCell_same _ X 0 _ _ _ HX16.out))))))
           refine wpAnyH_ready (rs:=[12]) (by kernel_rfl) (by simp) ?_
           refine AllReadyH.cons rfl (fun KK hKK=>?_) AllReadyH.nil
           go_simp
           refine hKK.out _ _ HU17.out.2.1.cells.2.1 (fun hHeld4=>?_)
           clear hKK hHeld3 x0 x1 x2 x3 x4 x5 v0 v1 v2 v3 v4 v5
           try simp only [Act.put,List.getElem_toArray,List.getElem_cons_zero,List.getElem_cons_succ,List.setIfInBounds_toArray,List.set_cons_zero,List.set_cons_succ]
           refine wpAnyH_take (i:=13) (v:=?v13z) rfl (by kernel_rfl) (by kernel_rfl) (by kernel_rfl) (fun _ _ _ h=>h) (Or.inl ⟨by rfl,?h13z⟩) (by assumption) ?r13z
           case h13z=>(intro W hSw;(try dsimp only at hSw);go_simp;all_goals (with_reducible rfl))
           try simp only [Act.put,List.getElem_toArray,List.getElem_cons_zero,List.getElem_cons_succ,List.setIfInBounds_toArray,List.set_cons_zero,List.set_cons_succ]
           refine wpAnyH_take (i:=14) (v:=?v14z) rfl (by kernel_rfl) (by kernel_rfl) (by kernel_rfl) (fun _ _ _ h=>h) (Or.inl ⟨by rfl,?h14z⟩) (by assumption) ?r14z
           case h14z=>(intro W hSw;(try dsimp only at hSw);go_simp;all_goals (with_reducible rfl))
           try simp only [Act.put,List.getElem_toArray,List.getElem_cons_zero,List.getElem_cons_succ,List.setIfInBounds_toArray,List.set_cons_zero,List.set_cons_succ]
           refine wpAnyH_done (by kernel_rfl) ?_ _
           refine NoPanic.normal ?_
           clear hHeld4
           generalize ((((((w16.setCell ⟨X,0,none⟩ (.int .i64 0)).setCell ⟨X,1,none⟩ (.int .i64 0)).setCell ⟨X,2,none⟩ (.int .i64 0)).setCell ⟨X,3,none⟩ (.string ⟨#[]⟩)).setCell ⟨X,4,none⟩ (.string ⟨#[]⟩)).setCell ⟨X,5,none⟩ (.int .i64 0))=w17 at HU17 HX17 ⊢
           clear HU16 HX16 HU15d HX15d
           obtain ⟨s0,s1,sz,sl⟩:=HU17.out.2.1.cells
           go_wp2_with fail
           refine (throw_any e (c7:Int) _).mono ?_
           rintro r w' ⟨rfl,rfl⟩
           exact odoor_bad e (c7:Int) HU17.out.1 he HRES.out _ rfl rfl
         subst he
         obtain ⟨V5,hV5⟩:∃ V,fillV K (s.data.toList.drop c7)=V:=⟨_,rfl⟩
         obtain ⟨N5,hN5⟩:∃ N,(getN K (s.data.toList.drop c7)).1=N:=⟨_,rfl⟩
         obtain ⟨k5,hk5⟩:∃ k,fillN K (s.data.toList.drop c7)=k:=⟨_,rfl⟩
         have hfl:=(fill_only hF).2.2
         rw [hk5,List.length_drop,HSL.out] at hfl
         obtain ⟨c8,hc8e⟩:∃ c8,c7 + k5=c8:=⟨_,rfl⟩
         have hc8:c8≤s.size:=by omega
         have kw8:IntKind.i64.wrap ((c7:Int) + (k5:Int))=(c8:Int):=by rw [show (c7:Int) + (k5:Int)=(c8:Int) by omega];exact IntWalk.i64_in _ (by omega)
         have HFV:Hid (fillV K (s.extract c7 s.size).data.toList=V5):=Lib.hid (by rw [ext_dropV];exact hV5)
         have HFN:Hid ((getN K (s.extract c7 s.size).data.toList).1=N5):=Lib.hid (by rw [ext_dropV];exact hN5)
         have HFK:Hid (fillN K (s.extract c7 s.size).data.toList=k5):=Lib.hid (by rw [ext_dropV];exact hk5)
         have HUO:Hid (unV s.data.toList c3=.inr (c8,⟨A2,rep,K,key,V5,N5⟩)):=Lib.hid (by
           rw [unV_ok HKF.out HT0.out HP1.out HG6.out HFU.out,HPOS.out,HA2.out,HREP.out,HKK.out,HKEY.out,hV5,hN5,hk5,hc8e])
         have HUW2:Hid (unVs s.data.toList k2 b2 []=unVs s.data.toList q' c8 (W ++ [⟨A2,rep,K,key,V5,N5⟩])):=Lib.hid (by rw [HUW.out,HQ.out,unVs_ok HUO.out])
         have HWO2:Hid (∀ t∈W ++ [(⟨A2,rep,K,key,V5,N5⟩:Wr)],WrOk t):=Lib.hid (fun t ht=>by
           rcases List.mem_append.1 ht with ht | ht
           · exact HWO.out t ht
           · rw [List.mem_singleton.1 ht];exact (wE_facts (unV_only HUO.out).1).2.2.2.2.2.2.2.2.2)
         clear hF hV5 hN5 hk5 hfl hc8e HWR
         have hz:((0:Int) != 0)=false:=rfl
         go_wp2
         refine wp_region_noPanic ?_
         refine wp_region_held_drew (S:=(fun w'=>w'.cell? ⟨R,1,none⟩=some (.int .i64 (c7:Int)))) (by kernel_rfl) HU15d.out.2.1.cells.2.1 (fun hHeld=>?_)
         generalize w15.drew=W15 at HU15d HX15d hHeld ⊢
         refine wpAnyH_take (i:=1) (v:=?v1y) rfl (by kernel_rfl) (by kernel_rfl) (by kernel_rfl) (fun _ _ _ h=>h) (Or.inl ⟨by rfl,?h1y⟩) (by assumption) ?r1y
         case h1y=>(intro W hSw;(try dsimp only at hSw);go_simp;all_goals (with_reducible rfl))
         try simp only [Act.put,List.getElem_toArray,List.getElem_cons_zero,List.getElem_cons_succ,List.setIfInBounds_toArray,List.set_cons_zero,List.set_cons_succ]
         refine wpAnyH_take (i:=2) (v:=?v2y) rfl (by kernel_rfl) (by kernel_rfl) (by kernel_rfl) (fun _ _ _ h=>h) (Or.inl ⟨by rfl,?h2y⟩) (by assumption) ?r2y
         case h2y=>(intro W hSw;(try dsimp only at hSw);go_simp;all_goals (with_reducible rfl))
         try simp only [Act.put,List.getElem_toArray,List.getElem_cons_zero,List.getElem_cons_succ,List.setIfInBounds_toArray,List.set_cons_zero,List.set_cons_succ]
         refine wpAnyH_take (i:=3) (v:=?v3y) rfl (by kernel_rfl) (by kernel_rfl) (by kernel_rfl) (fun _ _ _ h=>h) (Or.inl ⟨by rfl,?h3y⟩) (by assumption) ?r3y
         case h3y=>(intro W hSw;(try dsimp only at hSw);go_simp;all_goals (with_reducible rfl))
         try simp only [Act.put,List.getElem_toArray,List.getElem_cons_zero,List.getElem_cons_succ,List.setIfInBounds_toArray,List.set_cons_zero,List.set_cons_succ]
         refine wpAnyH_take (i:=4) (v:=?v4y) rfl (by kernel_rfl) (by kernel_rfl) (by kernel_rfl) (fun _ _ _ h=>h) (Or.inl ⟨by rfl,?h4y⟩) (by assumption) ?r4y
         case h4y=>(intro W hSw;(try dsimp only at hSw);go_simp;all_goals (with_reducible rfl))
         try simp only [Act.put,List.getElem_toArray,List.getElem_cons_zero,List.getElem_cons_succ,List.setIfInBounds_toArray,List.set_cons_zero,List.set_cons_succ]
         refine wpAnyH_take (i:=5) (v:=?v5y) rfl (by kernel_rfl) (by kernel_rfl) (by kernel_rfl) (fun _ _ _ h=>h) (Or.inl ⟨by rfl,?h5y⟩) (by assumption) ?r5y
         case h5y=>(intro W hSw;(try dsimp only at hSw);go_simp;all_goals (with_reducible rfl))
         try simp only [Act.put,List.getElem_toArray,List.getElem_cons_zero,List.getElem_cons_succ,List.setIfInBounds_toArray,List.set_cons_zero,List.set_cons_succ]
         refine wpAnyH_take (i:=6) (v:=?v6y) rfl (by kernel_rfl) (by kernel_rfl) (by kernel_rfl) (fun _ _ _ h=>h) (Or.inl ⟨by rfl,?h6y⟩) (by assumption) ?r6y
         case h6y=>(intro W hSw;(try dsimp only at hSw);go_simp;all_goals (with_reducible rfl))
         try simp only [Act.put,List.getElem_toArray,List.getElem_cons_zero,List.getElem_cons_succ,List.setIfInBounds_toArray,List.set_cons_zero,List.set_cons_succ]
         obtain ⟨x0,x1,x2,x3,x4,x5⟩:=row_at HX15d.out
         refine wpAnyH_ready (rs:=[0]) (by kernel_rfl) (by simp) ?_
         refine AllReadyH.cons rfl (fun KK hKK=>?_) AllReadyH.nil
         go_simp
         refine hKK.out _ _ HU15d.out.2.1.cells.2.1 (fun hHeld2=>?_)
         clear hKK hHeld x0 x1 x2 x3 x4 x5
         try simp only [Act.put,List.getElem_toArray,List.getElem_cons_zero,List.getElem_cons_succ,List.setIfInBounds_toArray,List.set_cons_zero,List.set_cons_succ]
         refine wpAnyH_ready (rs:=[7]) (by kernel_rfl) (by simp) ?_
         refine AllReadyH.cons rfl (fun KK hKK=>?_) AllReadyH.nil
         go_simp
         refine (rfill_ok A2 rep K key (s.extract c7 s.size) V5 N5 k5 W15 HKS.out HSX.out HF0.out HFV.out HFN.out HFK.out).mono ?_
         rintro r w16 ⟨rfl,hb16⟩
         have HU16:=Lib.hid (HU15d.out.below hb16)
         have HX16:=Lib.hid ((hb16.block X (Array.getElem?_eq_some_iff.1 HX15d.out).1).trans HX15d.out)
         clear hb16
         refine hKK.out _ _ HU16.out.2.1.cells.2.1 (fun hHeld3=>?_)
         clear hKK hHeld2
         try simp only [Act.put,List.getElem_toArray,List.getElem_cons_zero,List.getElem_cons_succ,List.setIfInBounds_toArray,List.set_cons_zero,List.set_cons_succ]
         refine wpAnyH_take (i:=8) (v:=?v8y) rfl (by kernel_rfl) (by kernel_rfl) (by kernel_rfl) (fun _ _ _ h=>h) (Or.inl ⟨by rfl,?h8y⟩) (by assumption) ?r8y
         case h8y=>(intro W hSw;(try dsimp only at hSw);go_simp;all_goals (with_reducible rfl))
         try simp only [Act.put,List.getElem_toArray,List.getElem_cons_zero,List.getElem_cons_succ,List.setIfInBounds_toArray,List.set_cons_zero,List.set_cons_succ]
         refine wpAnyH_take (i:=9) (v:=?v9y) rfl (by kernel_rfl) (by kernel_rfl) (by kernel_rfl) (fun _ _ _ h=>h) (Or.inl ⟨by rfl,?h9y⟩) (by assumption) ?r9y
         case h9y=>(intro W hSw;(try dsimp only at hSw);go_simp;all_goals (with_reducible rfl))
         try simp only [Act.put,List.getElem_toArray,List.getElem_cons_zero,List.getElem_cons_succ,List.setIfInBounds_toArray,List.set_cons_zero,List.set_cons_succ]
         refine wpAnyH_take (i:=10) (v:=?v10y) rfl (by kernel_rfl) (by kernel_rfl) (by kernel_rfl) (fun _ _ _ h=>h) (Or.inl ⟨by rfl,?h10y⟩) (by assumption) ?r10y
         case h10y=>(intro W hSw;(try dsimp only at hSw);go_simp;all_goals (with_reducible rfl))
         try simp only [Act.put,List.getElem_toArray,List.getElem_cons_zero,List.getElem_cons_succ,List.setIfInBounds_toArray,List.set_cons_zero,List.set_cons_succ]
         refine wpAnyH_take (i:=11) (v:=?v11y) rfl (by kernel_rfl) (by kernel_rfl) (by kernel_rfl) (fun _ _ _ h=>h) (Or.inl ⟨by rfl,?h11y⟩) (by assumption) ?r11y
         case h11y=>(intro W hSw;(try dsimp only at hSw);go_simp;all_goals (with_reducible rfl))
         try simp only [Act.put,List.getElem_toArray,List.getElem_cons_zero,List.getElem_cons_succ,List.setIfInBounds_toArray,List.set_cons_zero,List.set_cons_succ]
         obtain ⟨x0,x1,x2,x3,x4,x5⟩:=row_at HX16.out
         obtain ⟨v0,v1,v2,v3,v4,v5⟩:=free_row HX16.out
         have HU17:=Lib.hid ((((((HU16.out.store (o:=0) (x:=.int .i64 A2) HX16.out HXR.out HVX.out).store (o:=1) (x:=.int .i64 rep) (heap_setCell_same _ X 0 _ _ _ HX16.out) HXR.out HVX.out).store (o:=2) (x:=.int .i64 K) (heap_setCell_same _ X 1 _ _ _ (heap_setCell_same _ X 0 _ _ _ HX16.out)) HXR.out HVX.out).store (o:=3) (x:=.string key) (heap_setCell_same _ X 2 _ _ _ (heap_setCell_same _ X 1 _ _ _ (heap_setCell_same _ X 0 _ _ _ HX16.out))) HXR.out HVX.out).store (o:=4) (x:=.string V5) (heap_setCell_same _ X 3 _ _ _ (heap_setCell_same _ X 2 _ _ _ (heap_setCell_same _ X 1 _ _ _ (heap_setCell_same _ X 0 _ _ _ HX16.out)))) HXR.out HVX.out).store (o:=5) (x:=.int .i64 N5) (heap_setCell_same _ X 4 _ _ _ (heap_setCell_same _ X 3 _ _ _ (heap_setCell_same _ X 2 _ _ _ (heap_setCell_same _ X 1 _ _ _ (heap_setCell_same _ X 0 _ _ _ HX16.out))))) HXR.out HVX.out)
         have HX17:Hid (((((((w16.setCell ⟨X,0,none⟩ (.int .i64 A2)).setCell ⟨X,1,none⟩ (.int .i64 rep)).setCell ⟨X,2,none⟩ (.int .i64 K)).setCell ⟨X,3,none⟩ (.string key)).setCell ⟨X,4,none⟩ (.string V5)).setCell ⟨X,5,none⟩ (.int .i64 N5)).heap[X]? = some (.cells #[.int .i64 A2,.int .i64 rep,.int .i64 K,.string key,.string V5,.int .i64 N5] 59 (0,0))):=Lib.hid (heap_setCell_same _ X 5 _ _ _ (heap_setCell_same _ X 4 _ _ _ (heap_setCell_same _ X 3 _ _ _ (heap_setCell_same _ X 2 _ _ _ (heap_setCell_same _ X 1 _ _ _ (heap_setCell_same _ X 0 _ _ _ HX16.out))))))
         refine wpAnyH_ready (rs:=[12]) (by kernel_rfl) (by simp) ?_
         refine AllReadyH.cons rfl (fun KK hKK=>?_) AllReadyH.nil
         go_simp
         refine hKK.out _ _ HU17.out.2.1.cells.2.1 (fun hHeld4=>?_)
         clear hKK hHeld3 x0 x1 x2 x3 x4 x5 v0 v1 v2 v3 v4 v5
         try simp only [Act.put,List.getElem_toArray,List.getElem_cons_zero,List.getElem_cons_succ,List.setIfInBounds_toArray,List.set_cons_zero,List.set_cons_succ]
         refine wpAnyH_take (i:=13) (v:=?v13y) rfl (by kernel_rfl) (by kernel_rfl) (by kernel_rfl) (fun _ _ _ h=>h) (Or.inl ⟨by rfl,?h13y⟩) (by assumption) ?r13y
         case h13y=>(intro W hSw;(try dsimp only at hSw);go_simp;all_goals (with_reducible rfl))
         try simp only [Act.put,List.getElem_toArray,List.getElem_cons_zero,List.getElem_cons_succ,List.setIfInBounds_toArray,List.set_cons_zero,List.set_cons_succ]
         refine wpAnyH_take (i:=14) (v:=?v14y) rfl (by kernel_rfl) (by kernel_rfl) (by kernel_rfl) (fun _ _ _ h=>h) (Or.inl ⟨by rfl,?h14y⟩) (by assumption) ?r14y
         case h14y=>(intro W hSw;(try dsimp only at hSw);go_simp;all_goals (with_reducible rfl))
         try simp only [Act.put,List.getElem_toArray,List.getElem_cons_zero,List.getElem_cons_succ,List.setIfInBounds_toArray,List.set_cons_zero,List.set_cons_succ]
         refine wpAnyH_done (by kernel_rfl) ?_ _
         refine NoPanic.normal ?_
         clear hHeld4
         generalize ((((((w16.setCell ⟨X,0,none⟩ (.int .i64 A2)).setCell ⟨X,1,none⟩ (.int .i64 rep)).setCell ⟨X,2,none⟩ (.int .i64 K)).setCell ⟨X,3,none⟩ (.string key)).setCell ⟨X,4,none⟩ (.string V5)).setCell ⟨X,5,none⟩ (.int .i64 N5))=w17 at HU17 HX17 ⊢
         clear HU16 HX16 HU15d HX15d
         obtain ⟨s0,s1,sz,sl⟩:=HU17.out.2.1.cells
         have HU18:=Lib.hid (HU17.out.go (b:=c8))
         have HX18:=Lib.hid (row_setCell (R:=R) (o:=1) HX17.out (by have:=HXR.out;omega) (.int .i64 (c8:Int)))
         obtain ⟨x0,x1,x2,x3,x4,x5⟩:=row_at HX18.out
         obtain ⟨⟨_,_,q2⟩,_⟩:=HU18.out.1.cells
         have HX19:Hid (wrBlk ((w17.setCell ⟨R,1,none⟩ (.int .i64 (c8:Int))).alloc (.cells #[.int .i64 A2,.int .i64 rep,.int .i64 K,.string key,.string V5,.int .i64 N5] 59)) w17.heap.size ⟨A2,rep,K,key,V5,N5⟩):=Lib.hid (by
           have h:=heap_alloc_new (w17.setCell ⟨R,1,none⟩ (.int .i64 (c8:Int))) (.cells #[.int .i64 A2,.int .i64 rep,.int .i64 K,.string key,.string V5,.int .i64 N5] 59)
           rw [World.size_setCell] at h
           exact h)
         have HU19:=Lib.hid (HU18.out.alloc (.cells #[.int .i64 A2,.int .i64 rep,.int .i64 K,.string key,.string V5,.int .i64 N5] 59))
         have HWS:Hid (W.length + 1≤1000000):=Lib.hid (by have:=HNW.out;have:=HWQ.out;omega)
         have HNW1:Hid (W.length + 1=nw + 1):=Lib.hid (by rw [HNW.out])
         clear HU17 HX17 HU15 HX15
         go_wp2_with (at_builtin;refine wpList_append_wr rfl _ _ rfl (R + 2) _ W rfl HU19.out.2.2.1.2.2.2.2 w17.heap.size 1 rfl ⟨A2,rep,K,key,V5,N5⟩ HX19.out HWS.out HU19.out.2.2.2.2 ?_)
         intro g2 cap2 w20 ho20 hg20
         rw [HNW1.out] at ho20 ⊢
         have HU20:=Lib.hid (HU19.out.writes ho20 hg20)
         have hud:=HU19.out.1.kept hg20 (fun k hk=>by have:=own_far HU19.out.2.2.1.2.2.2.2 k hk;have:=HU19.out.2.2.2.1;omega)
         clear x0 x1 x2 x3 x4 x5 q2 s0 s1 sz sl ho20 hg20
         obtain ⟨⟨_,_,q2⟩,_,⟨_,_,z2⟩,_⟩:=hud.cells
         clear hud
         go_wp2
         go_roundw
         case rel=>exact ⟨q',c8,W ++ [⟨A2,rep,K,key,V5,N5⟩],_,by go_num,hc8,by rw [List.length_append];have:=HNW.out;have:=HWQ.out;have:=HQ.out;simp;omega,HUW2.out,HWO2.out,HU20.out⟩
         case measure=>have:=HQB.out;simp [intOf];omega
       · obtain rfl:q=0:=by omega
         have HUW2:Hid (unVs s.data.toList k2 (a + j2) []=.inr (c3,W)):=Lib.hid (by rw [HB2E.out,HUW.out];rfl)
         have HREST:=Lib.hid (unO_rest H1.out H2.out H3.out HUW2.out)
         clear HUW
         by_cases hcs2:c3 < s.size
         · have HRES:Hid (oldF s0.data.toList=.inl (3,-1)):=Lib.hid (HOB.out (by rw [HREST.out,if_pos (by rw [HSL.out];exact hcs2)]))
           have d2:(c3:Int) < (s.size:Int):=by omega
           go_wp2_with fail
           refine (throw_any 3 (c3:Int) _).mono ?_
           rintro r w' ⟨rfl,rfl⟩
           exact odoor_bad 3 (c3:Int) HUS.out.1 (by decide) HRES.out _ rfl rfl
         have d2:¬ ((c3:Int) < (s.size:Int)):=by omega
         have hr2:unO s.data.toList=if (batF f h W).1≠0 then .inl (batF f h W).1 else .inr (f,h,W):=by
           rw [HREST.out,if_neg (by rw [HSL.out];exact hcs2)]
         obtain ⟨af,cf,rfl,_⟩:=HUS.out.2.2.1.1.is.form
         obtain ⟨ah,ch,rfl,_⟩:=HUS.out.2.2.1.2.1.is.form
         obtain ⟨nf,hnf⟩:∃ nf,nf=f.length:=⟨_,rfl⟩
         obtain ⟨nh,hnh⟩:∃ nh,nh=h.length:=⟨_,rfl⟩
         rw [←hnf,←hnh] at HUS
         have HBT:Hid (BatIs wr (.slice af nf cf) (.slice ah nh ch) (.slice aw nw cw) f h W):=Lib.hid ⟨HUS.out.2.2.1.1.is,HUS.out.2.2.1.2.1.is,HUS.out.2.2.1.2.2.2.2.is,by have:=HRF.out;omega,by have:=HRH.out;omega,by have:=HNW.out;have:=HWQ.out;omega,HWO.out⟩
         obtain ⟨be,bp,hbf⟩:∃ be bp,batF f h W=(be,bp):=⟨_,_,rfl⟩
         rw [hbf] at hr2
         have HR2:=Lib.hid hr2
         have HBF:=Lib.hid hbf
         clear hr2 hbf HREST hnf hnh
         obtain ⟨⟨q0,q1,q2⟩,_⟩:=HUS.out.1.cells
         go_wp2_with fail
         refine (rbright_at _ _ _ f h W be bp wr HBT.out HBF.out).mono ?_
         rintro r w10 ⟨rfl,hb10⟩
         have HU10:=Lib.hid ((HUS.out.below hb10).alloc (.cells #[.int .i64 (be:Int),.int .i64 bp] 46))
         have HG10:Hid (rowF (w10.alloc (.cells #[.int .i64 (be:Int),.int .i64 bp] 46)) w10.heap.size (be:Int) bp):=Lib.hid (heap_alloc_new w10 _)
         clear hb10 q0 q1 q2 s0c s1 sz sl
         go_wp2_with fail
         refine (is_any (be:Int) bp _).mono ?_
         rintro r w11 ⟨rfl,hb11⟩
         have HU11:=Lib.hid (HU10.out.below hb11)
         have HG11:=Lib.hid (rowF.below HG10.out hb11 (by simp))
         clear hb11 HU10 HG10
         by_cases hbe:be=0
         rotate_left
         · have HRES:Hid (oldF s0.data.toList=.inl (be,-1)):=Lib.hid (HOB.out (by rw [HR2.out,if_pos hbe]))
           have hne:((be:Int) == 0)=false:=by simp;omega
           rw [hne]
           obtain ⟨g0,g1⟩:=HG11.out.at
           go_wp2_with fail
           refine (throw_any be (-1) _).mono ?_
           rintro r w' ⟨rfl,rfl⟩
           exact odoor_bad be (-1) HU11.out.1 hbe HRES.out _ rfl rfl
         subst hbe
         rw [show (((0:Nat):Int) == 0)=true by rfl]
         have HRES:Hid (oldF s0.data.toList=.inr (f,h,W)):=Lib.hid (HOG.out (by rw [HR2.out,if_neg (by simp)]))
         obtain ⟨⟨q0,q1,q2⟩,⟨x0,x1⟩,⟨z0,z1,z2⟩,z3,z4⟩:=HU11.out.1.cells
         have HUZ:=Lib.hid ((((HU11.out.1.put (o:=0) (v:=.slice af nf cf) rfl).put (o:=1) (v:=.slice ah nh ch) rfl).put (o:=2) (v:=.slice aw nw cw) rfl).fault 0 (-1))
         have HBO:=Lib.hid (show BatOwn (((((w11.setCell ⟨w.heap.size,0,none⟩ (.slice af nf cf)).setCell ⟨w.heap.size,1,none⟩ (.slice ah nh ch)).setCell ⟨w.heap.size,2,none⟩ (.slice aw nw cw)).setCell ⟨w.heap.size + 1,0,none⟩ (.int .i64 0)).setCell ⟨w.heap.size + 1,1,none⟩ (.int .i64 (-1))) (w.heap.size + 2) (.slice af nf cf) (.slice ah nh ch) (.slice aw nw cw) f h W from by
           have hR2:=HU11.out.2.2.2.1
           have hb:BatOwn w11 (w.heap.size + 2) (.slice af nf cf) (.slice ah nh ch) (.slice aw nw cw) f h W:=⟨HU11.out.2.2.1.1.mono (by omega),HU11.out.2.2.1.2.1.mono (by omega),HU11.out.2.2.1.2.2.2.2.mono (by omega),HRF.out,HRH.out,by have:=HNW.out;have:=HWQ.out;omega,HWO.out⟩
           exact ((((hb.cell (k:=w.heap.size) (by omega) 0 _).cell (k:=w.heap.size) (by omega) 1 _).cell (k:=w.heap.size) (by omega) 2 _).cell (k:=w.heap.size + 1) (by omega) 0 _).cell (k:=w.heap.size + 1) (by omega) 1 _)
         go_wp2
         exact odoor_good HUZ.out HBO.out HRES.out _ rfl rfl
theorem rold_any (s:ByteArray) (w:World) (hs:s.size≤400000):Calls Tryz.prog 32 #[.string s] w (ROldIs w s.data.toList):=by
 obtain ⟨v,i,e,ho⟩:∃ v i e,opnF s.data.toList=(v,i,e):=⟨_,_,_,rfl⟩
 obtain ⟨J,hJ⟩:∃ J:ByteArray,i=J.data.toList:=⟨⟨i.toArray⟩,by simp⟩
 subst hJ
 by_cases he:e=0
 · subst he
   have hv:=opn_only ho
   rcases (show v=1∨v=2∨v=3 by omega) with rfl | rfl | rfl
   · exact rold_one s J w hs ho
   · exact rold_two s J w hs ho
   · exact rold_state s J w hs ho
 · exact rold_err s J v e w hs ho he
end Go.Proofs.YtjkbmfpomgcblaaGreatDoor
