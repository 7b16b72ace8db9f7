import Derived.Test.YtddbpnplbcjpgaaGreatDoorLp22
import Derived.Test.YtddbpnplbcjpgaaGreatDoorLp23
namespace Go.Proofs.YtddbpnplbcjpgaaGreatDoor
open Go.RowKit
structure RLC (w W:World) (R:Nat) (G:Nat→Prop) (s:LogS) (u:List Wr) (vh vl:Value) (T Rp K:Int) (key val:ByteArray) (N:Int):Prop where
 rowb:W.heap[w.heap.size]? = some (.cells #[.int .i64 T,.int .i64 Rp,.int .i64 K,.string key,.string val,.int .i64 N] 26 (0,0))
 rowr:W.heap[w.heap.size + 1]? = some (.cells #[.int .i64 0,.int .i64 0] 24 (0,0))
 log:RefIn W R G s u vh vl
 bel:Below w.heap.size w W
 sz:w.heap.size + 2≤W.heap.size
 fl:∀ k,G k→k < w.heap.size
section
variable {w W:World} {R:Nat} {G:Nat→Prop} {s:LogS} {u:List Wr} {vh vl:Value} {T Rp K N:Int} {key val:ByteArray}
theorem RLC.call {W':World} (h:RLC w W R G s u vh vl T Rp K key val N) (hb:Below W.heap.size W W'):RLC w W' R G s u vh vl T Rp K key val N :=
 ⟨(hb.block _ (by have:=h.sz;omega)).trans h.rowb,(hb.block _ (by have:=h.sz;omega)).trans h.rowr,h.log.below hb,h.bel.trans (hb.mono h.bel.size),Nat.le_trans h.sz hb.size,h.fl⟩
theorem RLC.pb (h:RLC w W R G s u vh vl T Rp K key val N):R < w.heap.size:=h.fl R h.log.inR
theorem RLC.set {j:Nat} {z:Value} {T2 R2:Int} (h:RLC w W R G s u vh vl T Rp K key val N) (hz:(#[.int .i64 T,.int .i64 Rp,.int .i64 K,.string key,.string val,.int .i64 N]:Array Value).setIfInBounds j z=#[.int .i64 T2,.int .i64 R2,.int .i64 K,.string key,.string val,.int .i64 N]) :
   RLC w (W.setCell ⟨w.heap.size,j,none⟩ z) R G s u vh vl T2 R2 K key val N :=
 ⟨by rw [←hz];exact heap_setCell_same _ _ j _ _ z h.rowb,(heap_setCell_other _ _ _ _ (by show _≠w.heap.size;omega)).trans h.rowr,h.log.but (F:=fun k=>k=w.heap.size) ((But.refl (fun k=>k=w.heap.size) W).setCell (.inl (show w.heap.size=w.heap.size from rfl)) _) (fun k hk e=>by have:=h.fl k hk;omega),
  h.bel.setCell (Nat.le_refl _) _,by simpa using h.sz,h.fl⟩
theorem RLC.cb (h:RLC w W R G s u vh vl T Rp K key val N):W.cell? ⟨w.heap.size,0,none⟩=some (.int .i64 T)∧W.cell? ⟨w.heap.size,1,none⟩=some (.int .i64 Rp)∧W.cell? ⟨w.heap.size,2,none⟩=some (.int .i64 K)∧W.cell? ⟨w.heap.size,3,none⟩=some (.string key)∧W.cell? ⟨w.heap.size,4,none⟩=some (.string val)∧W.cell? ⟨w.heap.size,5,none⟩=some (.int .i64 N) :=
 ⟨cell_of_row _ _ 0 _ _ _ h.rowb,cell_of_row _ _ 1 _ _ _ h.rowb,cell_of_row _ _ 2 _ _ _ h.rowb,cell_of_row _ _ 3 _ _ _ h.rowb,cell_of_row _ _ 4 _ _ _ h.rowb,cell_of_row _ _ 5 _ _ _ h.rowb⟩
theorem RLC.cr (h:RLC w W R G s u vh vl T Rp K key val N):(W.cell? ⟨w.heap.size + 1,0,none⟩=some (.int .i64 0)∧W.cell? ⟨w.heap.size + 1,1,none⟩=some (.int .i64 0))∧W.frozen? ⟨w.heap.size + 1,0,none⟩=false∧W.frozen? ⟨w.heap.size + 1,1,none⟩=false :=
 ⟨⟨cell_of_row _ _ 0 _ _ _ h.rowr,cell_of_row _ _ 1 _ _ _ h.rowr⟩,Lib.frozen_of_heap h.rowr 0,Lib.frozen_of_heap h.rowr 1⟩
theorem RLC.out (h:RLC w W R G s u vh vl T Rp K key val N) (a b:Value):((W.setCell ⟨w.heap.size + 1,0,none⟩ a).setCell ⟨w.heap.size + 1,1,none⟩ b).heap[w.heap.size + 1]? = some (.cells #[a,b] 24 (0,0))∧Below w.heap.size w ((W.setCell ⟨w.heap.size + 1,0,none⟩ a).setCell ⟨w.heap.size + 1,1,none⟩ b) :=
 ⟨heap_setCell_same _ _ 1 _ _ b (heap_setCell_same _ _ 0 _ _ a h.rowr),(h.bel.setCell (by simp) _).setCell (by simp) _⟩
end
theorem maxT_take {l:List Ent} {a:Int} (h:okV a l) (k:Nat):maxT (l.take k)≤1099511627776:=by
 have h1:=(maxT_from l 0).2
 have h2:∀ e∈l.take k,e.time≤maxT l:=fun e he=>h1 e (List.mem_of_mem_take he)
 have h3:=maxT_bd h
 have:∀ (m:List Ent) (x:Int),x≤maxT l→(∀ e∈m,e.time≤maxT l)→m.foldl (fun a e=>max a e.time) x≤maxT l:=by
   intro m
   induction m with
   | nil=>intro x hx _;exact hx
   | cons d r ih =>
     intro x hx hm
     rw [List.foldl_cons]
     exact ih _ (by have:=hm d List.mem_cons_self;omega) (fun e he=>hm e (List.mem_cons_of_mem _ he))
 have h4:=this (l.take k) 0 h3.1 h2
 unfold maxT at h4 h3 ⊢
 omega
def RLocIs (w:World) (R:Nat) (G:Nat→Prop) (s:LogS) (x:Wr) (e:Ending) (w':World):Prop :=
 (lcE s x≠0∧e=.returned (.tuple #[.agg #[.int .i64 0,.int .i64 0],.int .i64 (lcE s x:Nat)])∧Below w.heap.size w w') ∨
 (lcE s x=0∧e=.returned (.tuple #[.agg #[.int .i64 (maxT s.hv + 1),.int .i64 s.rep],.int .i64 0])∧∃ G',(∀ k,G' k→G k∨w.heap.size≤k)∧RefAt w' R G' (lcS s x)∧But G w w')
set_option maxRecDepth 100000 in
set_option maxHeartbeats 8000000 in
theorem rlocal_any (R:Nat) (G:Nat→Prop) (s:LogS) (T0 R0 K:Int) (key val:ByteArray) (N:Int) (w:World) (h:RefAt w R G s) (ok:LogOk s) (hk:key.size≤140737488351232) (hv:val.size≤140737488351232) :
   Calls Tryz.prog 7 #[.pointer (some ⟨R,0,none⟩),.agg #[.int .i64 T0,.int .i64 R0,.int .i64 K,.string key,.string val,.int .i64 N]] w (RLocIs w R G s ⟨T0,R0,K,key,val,N⟩):=by
 obtain ⟨u,vh,vl,h⟩:=h
 have HOK:=Lib.hid ok
 have HT:Hid (∀ k,maxT (s.hv.take k)≤1099511627776):=Lib.hid (maxT_take ok.hv.2)
 have HLE:=Lib.hid (maxT_bd ok.hv.2)
 obtain ⟨re,hre⟩:∃ re,re=s.rep:=⟨_,rfl⟩
 have HRE:=Lib.hid hre
 obtain ⟨a,c,rfl,hf⟩:=h.ents.is.form
 have HF:=Lib.hid hf
 obtain ⟨n,hn⟩:∃ n,n=s.hv.length:=⟨_,rfl⟩
 have hn2:n≤16:=by rw [hn];exact ok.hv.1
 rw [←hn] at h
 have HN:=Lib.hid hn
 obtain ⟨al,cl,rfl,_⟩:=h.wrs.is.form
 obtain ⟨nl,hnl⟩:∃ nl,nl=u.length:=⟨_,rfl⟩
 rw [←hnl] at h
 have HNL:Hid (nl=s.ws.length):=Lib.hid (by rw [hnl];exact h.len)
 have hl3:nl≤300:=by rw [HNL.out];exact ok.len
 have HPE:Hid (u.Perm s.ws):=Lib.hid h.perm
 have HR:Hid (RLC w ((w.alloc (.cells #[.int .i64 T0,.int .i64 R0,.int .i64 K,.string key,.string val,.int .i64 N] 26)).alloc (.cells #[.int .i64 0,.int .i64 0] 24)) R G s u (.slice a n c) (.slice al nl cl) T0 R0 K key val N):=Lib.hid
   ⟨by rw [Below.heap_alloc _ _ _ (by simp)];exact heap_alloc_new _ _,by have:=heap_alloc_new (w.alloc (.cells #[.int .i64 T0,.int .i64 R0,.int .i64 K,.string key,.string val,.int .i64 N] 26)) (.cells #[.int .i64 0,.int .i64 0] 24);rwa [World.size_alloc] at this,
     (h.below ((Below.refl _ _).alloc (Nat.le_refl _) _)).below ((Below.refl _ _).alloc (Nat.le_refl _) _),((Below.refl _ _).alloc (Nat.le_refl _) _).alloc (by simp) _,by simp,h.lt⟩
 have HKV:Hid (key.size≤140737488351232∧val.size≤140737488351232):=Lib.hid ⟨hk,hv⟩
 clear h ok hf hn hre hnl hk hv
 have hpb:=HR.out.pb
 have hne:¬ w.heap.size=R:=by omega
 have hne2:¬ R=w.heap.size:=by omega
 have hne3:¬ w.heap.size + 1=R:=by omega
 have hne4:¬ R=w.heap.size + 1:=by omega
 have hne5:¬ w.heap.size + 1=w.heap.size:=by omega
 have hne6:¬ w.heap.size=w.heap.size + 1:=by omega
 have p1:=HR.out.log.c1
 go_enter Tryz.func7,Tryz.ntmps7
 go_wp2
 generalize (w.alloc (.cells #[.int .i64 T0,.int .i64 R0,.int .i64 K,.string key,.string val,.int .i64 N] 26)).alloc (.cells #[.int .i64 0,.int .i64 0] 24)=W at HR p1 ⊢
 clear p1
 go_loopw [6,17] (fun m i wr=>∃ k:Nat,k≤n∧i=.int .i64 k∧m=.int .i64 (maxT (s.hv.take k))∧RLC w wr R G s u (.slice a n c) (.slice al nl cl) T0 R0 K key val N) (fun _ i _=>n - (intOf i).toNat)
 case atStart=>exact ⟨0,by omega,rfl,rfl,HR.out⟩
 case round =>
   obtain ⟨k,hk,rfl,rfl,hb⟩:=hrel
   clear HR
   have HR:=Lib.hid hb
   clear hb
   by_cases hlt:k < n
   · have b1:decide ((k:Int) < (n:Int))=true:=by simpa using hlt
     obtain ⟨x, hx⟩ : ∃ x, s.hv[k]? = some x := ⟨s.hv[k]'(by rw [← HN.out]; exact hlt), List.getElem?_eq_getElem _⟩
     obtain ⟨b,off,rfl,hbl,c0,c1⟩:=HF.out k x hx
     have HS:=Lib.hid (maxT_snoc hx)
     obtain ⟨r,t⟩:=x
     simp only at c0 c1 HS
     have e0:=(HR.out.bel.cell (p:=⟨b,off + k * 2,none⟩) hbl).trans c0
     have e1:=(HR.out.bel.cell (p:=⟨b,off + k * 2 + 1,none⟩) hbl).trans c1
     obtain ⟨y,hy⟩:∃ y,y=maxT (s.hv.take k):=⟨_,rfl⟩
     rw [←hy] at HS ⊢
     obtain ⟨z,hz⟩:∃ z,z=max y t:=⟨_,rfl⟩
     have hz2:max y t=z:=hz.symm
     have hz3:(if y < t then t else y)=z:=by rw [hz];split <;> omega
     have HZ:Hid (maxT (s.hv.take (k + 1))=z):=Lib.hid (by rw [HS.out,hz])
     clear hx c0 c1 hy hz HS
     go_wp2
     go_roundw
     · exact ⟨k + 1,by omega,by simp,by rw [HZ.out],HR.out.call ((Below.refl _ _).alloc (Nat.le_refl _) _)⟩
     · simp [intOf];omega
   · have b1:decide ((k:Int) < (n:Int))=false:=by simp;omega
     obtain rfl:k=n:=by omega
     have HA:Hid (s.hv.take k=s.hv):=Lib.hid (List.take_of_length_le (by rw [HN.out];exact Nat.le_refl _))
     rw [HA.out]
     obtain ⟨y,hy⟩:∃ y,y=maxT s.hv:=⟨_,rfl⟩
     rw [←hy] at HLE ⊢
     have hy1:0≤y:=HLE.out.1
     have hy2:y≤1099511627776:=HLE.out.2
     have HY:=Lib.hid hy
     clear hy
     obtain ⟨⟨r0,r1⟩,g0,g1⟩:=HR.out.cr
     by_cases h4:1099511627776≤y
     · have HE:Hid (lcE s ⟨T0,R0,K,key,val,N⟩=4):=Lib.hid (lcE_4 (by rw [←HY.out];exact h4))
       have h4b:decide ((1099511627776:Int)≤y)=true:=by simpa using h4
       go_wp2
       obtain ⟨hR,hbR⟩:=HR.out.out (.int .i64 0) (.int .i64 0)
       obtain ⟨V,hV⟩:∃ V,V=(wr.setCell ⟨w.heap.size + 1,0,none⟩ (.int .i64 0)).setCell ⟨w.heap.size + 1,1,none⟩ (.int .i64 0):=⟨_,rfl⟩
       rw [←hV] at hR hbR ⊢
       clear hV
       have q0:=cell_of_row _ _ 0 _ _ _ hR
       have q1:=cell_of_row _ _ 1 _ _ _ hR
       refine bodyPost_ret (v:=.tuple #[.agg #[.int .i64 0,.int .i64 0],.int .i64 4]) (by simp [results,Tryz.results7,go_sem,q0,q1]) rfl ?_
       exact .inl (by rw [HE.out];exact ⟨by first | exact h2 | exact h5 | simp,rfl,hbR⟩)
     · have h4b:decide ((1099511627776:Int)≤y)=false:=by simpa using h4
       have H4:Hid (¬ 1099511627776≤maxT s.hv):=Lib.hid (by rw [←HY.out];exact h4)
       have hkk:key.size≤140737488351232:=HKV.out.1
       have hvv:val.size≤140737488351232:=HKV.out.2
       have hy3:y < 1099511627776:=by omega
       obtain ⟨t,ht⟩:∃ t,t=y + 1:=⟨_,rfl⟩
       have HX:Hid (lcW s ⟨T0,R0,K,key,val,N⟩=⟨t,re,K,key,val,N⟩):=Lib.hid (by unfold lcW;rw [←HY.out,←ht,←HRE.out])
       have HTM:Hid (maxT s.hv + 1=t):=Lib.hid (by rw [←HY.out,ht])
       have ht2:y + 1=t:=ht.symm
       have ht3:1≤t:=by omega
       have ht4:t≤1099511627776:=by omega
       obtain ⟨e2,he2⟩:∃ e2,e2=wE ⟨t,re,K,key,val,N⟩:=⟨_,rfl⟩
       have HW2:Hid (wE (lcW s ⟨T0,R0,K,key,val,N⟩)=e2):=Lib.hid (by rw [HX.out,he2])
       have HV2:=Lib.hid he2.symm
       have q0:=HR.out.log.c0
       rw [←HRE.out] at q0
       have hb0:=HR.out.cb.1
       have hb1:=HR.out.cb.2.1
       have f0:=Lib.frozen_of_heap HR.out.rowb 0
       have f1:=Lib.frozen_of_heap HR.out.rowb 1
       have HW4:Hid (RLC w ((wr.setCell ⟨w.heap.size,0,none⟩ (.int .i64 t)).setCell ⟨w.heap.size,1,none⟩ (.int .i64 re)) R G s u (.slice a k c) (.slice al nl cl) t re K key val N):=Lib.hid ((HR.out.set (T2:=t) (R2:=R0) rfl).set (T2:=t) (R2:=re) rfl)
       obtain ⟨d0,d1,d2,d3,d4,d5⟩:=HW4.out.cb
       clear h4 he2 ht
       go_wp2_with fail
       refine (rwright_as ⟨t,re,K,key,val,N⟩ e2 _ hkk hvv HV2.out).mono ?_
       rintro r w5 ⟨rfl,hb5⟩
       have HW5:Hid (RLC w w5 R G s u (.slice a k c) (.slice al nl cl) t re K key val N):=Lib.hid (HW4.out.call hb5)
       clear hb5 d0 d1 d2 d3 d4 d5 q0 hb0 hb1 f0 f1 HW4 r0 r1 g0 g1 HR
       have HR:=HW5
       clear HW5
       obtain ⟨⟨r0,r1⟩,g0,g1⟩:=HR.out.cr
       by_cases h2:e2=0
       · subst h2
         have p2:=HR.out.log.c2
         by_cases h3:300≤nl
         · have h3b:decide ((300:Int)≤(nl:Int))=true:=by simp;omega
           have HE:Hid (lcE s ⟨T0,R0,K,key,val,N⟩=12):=Lib.hid (lcE_12 (by have:=H4.out;omega) HW2.out (by rw [←HNL.out];exact h3))
           go_wp2
           obtain ⟨hR,hbR⟩:=HR.out.out (.int .i64 0) (.int .i64 0)
           obtain ⟨V,hV⟩:∃ V,V=(w5.setCell ⟨w.heap.size + 1,0,none⟩ (.int .i64 0)).setCell ⟨w.heap.size + 1,1,none⟩ (.int .i64 0):=⟨_,rfl⟩
           rw [←hV] at hR hbR ⊢
           clear hV
           have q0:=cell_of_row _ _ 0 _ _ _ hR
           have q1:=cell_of_row _ _ 1 _ _ _ hR
           refine bodyPost_ret (v:=.tuple #[.agg #[.int .i64 0,.int .i64 0],.int .i64 12]) (by simp [results,Tryz.results7,go_sem,q0,q1]) rfl ?_
           exact .inl (by rw [HE.out];exact ⟨by first | exact h2 | exact h5 | simp,rfl,hbR⟩)
         · have h3b:decide ((300:Int)≤(nl:Int))=false:=by simp;omega
           have HJ0:Hid (lcE s ⟨T0,R0,K,key,val,N⟩=(lcJ s).1):=Lib.hid (lcE_j (by have:=H4.out;omega) HW2.out (by rw [←HNL.out];exact h3))
           have HJ1:Hid (lcJ s=joinR s.hv [⟨re,t⟩]):=Lib.hid (by unfold lcJ;rw [HTM.out,←HRE.out])
           obtain ⟨e4,j,hj⟩:∃ e4 j,joinR s.hv [⟨re,t⟩]=(e4,j):=⟨_,_,rfl⟩
           have HJ:=Lib.hid hj
           have hn3:nl < 300:=by omega
           clear hj h3
           go_wp2_with fail
           have k0:w5.drew.cell? ⟨R,1,none⟩=some (.slice a k c)∧w5.drew.cell? ⟨R,0,none⟩=some (.int .i64 re):=⟨(HR.out.call (Below.refl _ _).drew).log.c1,(HR.out.call (Below.refl _ _).drew).log.c0.trans (by rw [←HRE.out])⟩
           have HR5:=Lib.hid (HR.out.call (((Below.refl _ _).alloc (Nat.le_refl _) (.cells #[.int .i64 re,.int .i64 t] 62)).drew))
           have hwt:IntKind.i64.wrap t=t:=IntWalk.i64_in t ⟨by omega,by omega⟩
           have k1:((w5.alloc (.cells #[.int .i64 re,.int .i64 t] 62)).drew).cell? ⟨R,1,none⟩=some (.slice a k c)∧((w5.alloc (.cells #[.int .i64 re,.int .i64 t] 62)).drew).cell? ⟨R,0,none⟩=some (.int .i64 re):=⟨HR5.out.log.c1,HR5.out.log.c0.trans (by rw [←HRE.out])⟩
           have HEB:Hid (IsEnts ((w5.alloc (.cells #[.int .i64 re,.int .i64 t] 62)).drew) (.slice (some ⟨w5.heap.size,0,none⟩) 1 1) [⟨re,t⟩]):=Lib.hid ((entBlk_is (t:=⟨re,t⟩) (heap_alloc_new w5 (.cells #[.int .i64 re,.int .i64 t] 62))).below (Below.refl _ _).drew)
           have hhl:Hid (s.hv.length≤9223372036854775807):=Lib.hid (by have:=HOK.out.hv.1;omega)
           clear p2
           go_region_held3 (fun w'=>w'.cell? ⟨R,1,none⟩=some (.slice a k c)∧w'.cell? ⟨R,0,none⟩=some (.int .i64 re)) (first | exact k0 | exact k1 | exact k2 | fail) (first
             | (go_at_call 25;((with_reducible refine (rvjoin_any (.slice a k c) (.slice (some ⟨w5.heap.size,0,none⟩) 1 1) s.hv [⟨re,t⟩] ((w5.alloc (.cells #[.int .i64 re,.int .i64 t] 62)).drew) HR5.out.log.ents.is HEB.out hhl.out (by simp)).mono ?_);rintro r w6 ⟨v6,rfl,ho6,hb6⟩;rw [HJ.out] at ho6 ⊢;obtain ⟨au,cu,rfl,_⟩:=ho6.is.form;obtain ⟨nj,hnj⟩:∃ nj,nj=j.length:=⟨_,rfl⟩;rw [←hnj] at ho6 ⊢;clear hnj;have HR6:=Lib.hid (HR5.out.call hb6);have HO6:=Lib.hid ho6;have HB6:=Lib.hid hb6;have k2:w6.cell? ⟨R,1,none⟩=some (.slice a k c)∧w6.cell? ⟨R,0,none⟩=some (.int .i64 re):=⟨HR6.out.log.c1,HR6.out.log.c0.trans (by rw [←HRE.out])⟩;clear ho6 hb6))
             | fail)
           clear k0 k1 k2 HR r0 r1 g0 g1
           have HR:=HR6
           obtain ⟨⟨r0,r1⟩,g0,g1⟩:=HR.out.cr
           have HS6:=Lib.hid HR5.out.sz
           by_cases h5:e4=0
           · subst h5
             have HE:Hid (lcE s ⟨T0,R0,K,key,val,N⟩=0):=Lib.hid (by rw [HJ0.out,HJ1.out,HJ.out])
             have HS:Hid (lcS s ⟨T0,R0,K,key,val,N⟩=⟨s.rep,j,s.ws ++ [⟨t,re,K,key,val,N⟩]⟩):=Lib.hid (by unfold lcS;rw [HJ1.out,HJ.out,HX.out])
             go_wp2_with fail
             have HR0:=Lib.hid (HR.out.call (Below.refl _ _).drew)
             have HUP:Hid (∀ W2,Below w6.heap.size w6 W2→RLC w W2 R G s u (.slice a k c) (.slice al nl cl) t re K key val N):=Lib.hid (fun W2 hb=>HR.out.call hb)
             have HSS:Hid (∀ W2,Below w6.heap.size w6 W2→W2.cell? ⟨R,2,none⟩=some (.slice al nl cl)∧W2.cell? ⟨w.heap.size,0,none⟩=some (.int .i64 t)∧W2.cell? ⟨w.heap.size,1,none⟩=some (.int .i64 re)∧W2.cell? ⟨w.heap.size,2,none⟩=some (.int .i64 K)∧W2.cell? ⟨w.heap.size,3,none⟩=some (.string key)∧W2.cell? ⟨w.heap.size,4,none⟩=some (.string val)∧W2.cell? ⟨w.heap.size,5,none⟩=some (.int .i64 N)):=Lib.hid (fun W2 hb=>⟨(HUP.out W2 hb).log.c2,(HUP.out W2 hb).cb⟩)
             have HB0:Hid (Below w6.heap.size w6 w6.drew):=Lib.hid (Below.refl _ _).drew
             have k0:=HSS.out _ HB0.out
             refine wp_region_Z 16 (S:=fun W2=>W2.cell? ⟨R,2,none⟩=some (.slice al nl cl)∧W2.cell? ⟨w.heap.size,0,none⟩=some (.int .i64 t)∧W2.cell? ⟨w.heap.size,1,none⟩=some (.int .i64 re)∧W2.cell? ⟨w.heap.size,2,none⟩=some (.int .i64 K)∧W2.cell? ⟨w.heap.size,3,none⟩=some (.string key)∧W2.cell? ⟨w.heap.size,4,none⟩=some (.string val)∧W2.cell? ⟨w.heap.size,5,none⟩=some (.int .i64 N)) (by kernel_rfl) k0 (fun hSS=>?_)
             clear hSS
             try simp only [Act.put,List.getElem_toArray,List.getElem_cons_zero,List.getElem_cons_succ,List.setIfInBounds_toArray,List.set_cons_zero,List.set_cons_succ]
             refine wpAnyZ_take (i:=0) (v:=?v0) rfl (by kernel_rfl) (by kernel_rfl) (by kernel_rfl) (fun _ _ _ h=>h) (Or.inl ⟨by rfl,?h0⟩) (by assumption) ?r0
             case h0=>(intro W hSw;(try dsimp only at hSw);go_simp;all_goals (with_reducible rfl))
             try simp only [Act.put,List.getElem_toArray,List.getElem_cons_zero,List.setIfInBounds_toArray,List.set_cons_zero,List.set_cons_succ]
             refine wpAnyZ_take (i:=1) (v:=?v1) rfl (by kernel_rfl) (by kernel_rfl) (by kernel_rfl) (fun _ _ _ h=>h) (Or.inl ⟨by rfl,?h1⟩) (by assumption) ?r1
             case h1=>(intro W hSw;(try dsimp only at hSw);go_simp;all_goals (with_reducible rfl))
             try simp only [Act.put,List.getElem_toArray,List.getElem_cons_zero,List.getElem_cons_succ,List.setIfInBounds_toArray,List.set_cons_zero,List.set_cons_succ]
             refine wpAnyZ_take (i:=2) (v:=?v2) rfl (by kernel_rfl) (by kernel_rfl) (by kernel_rfl) (fun _ _ _ h=>h) (Or.inl ⟨by rfl,?h2⟩) (by assumption) ?r2
             case h2=>(intro W hSw;(try dsimp only at hSw);go_simp;all_goals (with_reducible rfl))
             try simp only [Act.put,List.getElem_toArray,List.getElem_cons_zero,List.getElem_cons_succ,List.setIfInBounds_toArray,List.set_cons_zero,List.set_cons_succ]
             refine wpAnyZ_take (i:=3) (v:=?v3) rfl (by kernel_rfl) (by kernel_rfl) (by kernel_rfl) (fun _ _ _ h=>h) (Or.inl ⟨by rfl,?h3⟩) (by assumption) ?r3
             case h3=>(intro W hSw;(try dsimp only at hSw);go_simp;all_goals (with_reducible rfl))
             try simp only [Act.put,List.getElem_toArray,List.getElem_cons_zero,List.getElem_cons_succ,List.setIfInBounds_toArray,List.set_cons_zero,List.set_cons_succ]
             refine wpAnyZ_take (i:=4) (v:=?v4) rfl (by kernel_rfl) (by kernel_rfl) (by kernel_rfl) (fun _ _ _ h=>h) (Or.inl ⟨by rfl,?h4⟩) (by assumption) ?r4
             case h4=>(intro W hSw;(try dsimp only at hSw);go_simp;all_goals (with_reducible rfl))
             try simp only [Act.put,List.getElem_toArray,List.getElem_cons_zero,List.getElem_cons_succ,List.setIfInBounds_toArray,List.set_cons_zero,List.set_cons_succ]
             refine wpAnyZ_take (i:=5) (v:=?v5) rfl (by kernel_rfl) (by kernel_rfl) (by kernel_rfl) (fun _ _ _ h=>h) (Or.inl ⟨by rfl,?h5⟩) (by assumption) ?r5
             case h5=>(intro W hSw;(try dsimp only at hSw);go_simp;all_goals (with_reducible rfl))
             try simp only [Act.put,List.getElem_toArray,List.getElem_cons_zero,List.getElem_cons_succ,List.setIfInBounds_toArray,List.set_cons_zero,List.set_cons_succ]
             refine wpAnyZ_take (i:=6) (v:=?v6) rfl (by kernel_rfl) (by kernel_rfl) (by kernel_rfl) (fun _ _ _ h=>h) (Or.inl ⟨by rfl,?h6⟩) (by assumption) ?r6
             case h6=>(intro W hSw;(try dsimp only at hSw);go_simp;all_goals (with_reducible rfl))
             try simp only [Act.put,List.getElem_toArray,List.getElem_cons_zero,List.getElem_cons_succ,List.setIfInBounds_toArray,List.set_cons_zero,List.set_cons_succ]
             refine wpAnyZ_take (i:=8) (v:=?v8) rfl (by kernel_rfl) (by kernel_rfl) (by kernel_rfl) (fun _ _ _ h=>h) (Or.inl ⟨by rfl,?h8⟩) (by assumption) ?r8
             case h8=>(intro W hSw;(try dsimp only at hSw);go_simp;all_goals (with_reducible rfl))
             try simp only [Act.put,List.getElem_toArray,List.getElem_cons_zero,List.getElem_cons_succ,List.setIfInBounds_toArray,List.set_cons_zero,List.set_cons_succ]
             refine wpAnyZ_ready (rs:=[7,9]) (by kernel_rfl) (by simp) ?_
             refine AllReadyZ.cons rfl (fun KK hKK=>?_) (AllReadyZ.cons rfl (fun KK hKK=>?_) AllReadyZ.nil)
             · refine step_append_wrsJ w6.drew rfl _ _ rfl w6.heap.size _ [] rfl (ownsW_nil _ _) _ u rfl (HUP.out _ HB0.out).log.wrs (by show 0 + u.length≤1000000;have:=HOK.out.len;have:=HNL.out;have:=HPE.out.length_eq;omega) HB0.out.size ?_
               rintro v7 w7 ho7 hg7 hv7
               rw [List.nil_append] at ho7
               have HBa:Hid (Below w6.heap.size w6 w7):=Lib.hid (HB0.out.grown hg7 HB0.out.size (fun g hg=>absurd (show (none:Option Nat)=some g from hg) (by simp)))
               obtain ⟨a7,c7,rfl,_⟩:=ho7.is.form
               have HO7:=Lib.hid ho7
               clear hv7 hg7 ho7
               refine hKK.out _ _ (HSS.out _ HBa.out) (fun hSS=>?_)
               clear hKK hSS
               try simp only [Act.put,List.getElem_toArray,List.getElem_cons_zero,List.getElem_cons_succ,List.setIfInBounds_toArray,List.set_cons_zero,List.set_cons_succ]
               refine wpAnyZ_ready (rs:=[9]) (by kernel_rfl) (by simp) ?_
               refine AllReadyZ.cons rfl (fun KK hKK=>?_) (AllReadyZ.nil)
               go_simp
               have HBb:Hid (Below w6.heap.size w6 (w7.alloc (.cells #[.int .i64 t,.int .i64 re,.int .i64 K,.string key,.string val,.int .i64 N] 26))):=Lib.hid (HBa.out.alloc HBa.out.size _)
               refine hKK.out _ _ (HSS.out _ HBb.out) (fun hSS=>?_)
               clear hKK hSS
               try simp only [Act.put,List.getElem_toArray,List.getElem_cons_zero,List.getElem_cons_succ,List.setIfInBounds_toArray,List.set_cons_zero,List.set_cons_succ]
               have HBK:Hid (wrBlk (w7.alloc (.cells #[.int .i64 t,.int .i64 re,.int .i64 K,.string key,.string val,.int .i64 N] 26)) w7.heap.size ⟨t,re,K,key,val,N⟩):=Lib.hid (heap_alloc_new _ _)
               have HO8:Hid (ownsW (w7.alloc (.cells #[.int .i64 t,.int .i64 re,.int .i64 K,.string key,.string val,.int .i64 N] 26)) w6.heap.size (.slice a7 u.length c7) u):=Lib.hid (HO7.out.alloc _)
               obtain ⟨w8,hw8⟩:∃ w8,w8=w7.alloc (.cells #[.int .i64 t,.int .i64 re,.int .i64 K,.string key,.string val,.int .i64 N] 26):=⟨_,rfl⟩
               rw [←hw8] at HBb HBK HO8 ⊢
               clear hw8
               refine wpAnyZ_ready (rs:=[10]) (by kernel_rfl) (by simp) ?_
               refine AllReadyZ.cons rfl (fun KK hKK=>?_) (AllReadyZ.nil)
               refine step_append_wr rfl _ _ rfl w6.heap.size (.slice a7 u.length c7) u rfl HO8.out w7.heap.size 1 rfl ⟨t,re,K,key,val,N⟩ HBK.out (by have:=HOK.out.len;have:=HPE.out.length_eq;omega) HBb.out.size ?_
               rintro v10 w10 ho10 hg10 hv10
               have HBc:Hid (Below w6.heap.size w6 w10):=Lib.hid (HBb.out.grown hg10 HBb.out.size (fun g hg=>(HO8.out.lt g hg).1))
               obtain ⟨a10,c10,rfl,_⟩:=ho10.is.form
               obtain ⟨n10,hn10⟩:∃ n10,n10=(u ++ [(⟨t,re,K,key,val,N⟩:Wr)]).length:=⟨_,rfl⟩
               rw [←hn10] at ho10 ⊢
               have HO10:=Lib.hid ho10
               clear ho10 hg10 hv10 hn10
               refine hKK.out _ _ (HSS.out _ HBc.out) (fun hSS=>?_)
               clear hKK hSS
               try simp only [Act.put,List.getElem_toArray,List.getElem_cons_zero,List.getElem_cons_succ,List.setIfInBounds_toArray,List.set_cons_zero,List.set_cons_succ]
               have HR10:=Lib.hid (HUP.out _ HBc.out)
               have z1:=HR10.out.log.c1
               have z2:=HR10.out.log.c2
               obtain ⟨b0,b1,b2,b3,b4,b5⟩:=HR10.out.cb
               have k8:=HSS.out _ HBc.out
               have y1:=Lib.frozen_of_heap HR10.out.log.row 1
               have y2:=Lib.frozen_of_heap HR10.out.log.row 2
               have hq:∀ j u,w10.cell? ⟨w.heap.size,j,none⟩=some u→(w10.setCell ⟨R,1,none⟩ (.slice au nj cu)).cell? ⟨w.heap.size,j,none⟩=some u:=fun j u hu=>(World.cell?_setCell_other _ _ _ _ (by intro e;exact hne2 (congrArg Addr.block e))).trans hu
               have k9:(w10.setCell ⟨R,1,none⟩ (.slice au nj cu)).cell? ⟨R,2,none⟩=some (.slice al nl cl)∧(w10.setCell ⟨R,1,none⟩ (.slice au nj cu)).cell? ⟨w.heap.size,0,none⟩=some (.int .i64 t)∧(w10.setCell ⟨R,1,none⟩ (.slice au nj cu)).cell? ⟨w.heap.size,1,none⟩=some (.int .i64 re)∧(w10.setCell ⟨R,1,none⟩ (.slice au nj cu)).cell? ⟨w.heap.size,2,none⟩=some (.int .i64 K)∧(w10.setCell ⟨R,1,none⟩ (.slice au nj cu)).cell? ⟨w.heap.size,3,none⟩=some (.string key)∧(w10.setCell ⟨R,1,none⟩ (.slice au nj cu)).cell? ⟨w.heap.size,4,none⟩=some (.string val)∧(w10.setCell ⟨R,1,none⟩ (.slice au nj cu)).cell? ⟨w.heap.size,5,none⟩=some (.int .i64 N):=⟨(World.cell?_setCell_other _ _ _ _ (by simp)).trans z2,hq _ _ b0,hq _ _ b1,hq _ _ b2,hq _ _ b3,hq _ _ b4,hq _ _ b5⟩
               clear hq
               refine wpAnyZ_take (i:=11) (v:=?v11) rfl (by kernel_rfl) (by kernel_rfl) (by kernel_rfl) (fun _ _ _ h=>h) (Or.inl ⟨by rfl,?h11⟩) (by assumption) ?r11
               case h11=>(intro W hSw;(try dsimp only at hSw);go_simp;all_goals (with_reducible rfl))
               try simp only [Act.put,List.getElem_toArray,List.getElem_cons_zero,List.getElem_cons_succ,List.setIfInBounds_toArray,List.set_cons_zero,List.set_cons_succ]
               refine wpAnyZ_take (i:=12) (v:=?v12) rfl (by kernel_rfl) (by kernel_rfl) (by kernel_rfl) (fun _ _ _ h=>h) (Or.inl ⟨by rfl,?h12⟩) (by assumption) ?r12
               case h12=>(intro W hSw;(try dsimp only at hSw);go_simp;all_goals (with_reducible rfl))
               try simp only [Act.put,List.getElem_toArray,List.getElem_cons_zero,List.getElem_cons_succ,List.setIfInBounds_toArray,List.set_cons_zero,List.set_cons_succ]
               refine wpAnyZ_ready (rs:=[13]) (by kernel_rfl) (by simp) ?_
               refine AllReadyZ.cons rfl (fun KK hKK=>?_) (AllReadyZ.nil)
               go_simp
               refine hKK.out _ _ k9 (fun hSS=>?_)
               clear hKK hSS
               try simp only [Act.put,List.getElem_toArray,List.getElem_cons_zero,List.getElem_cons_succ,List.setIfInBounds_toArray,List.set_cons_zero,List.set_cons_succ]
               refine wpAnyZ_ready (rs:=[14]) (by kernel_rfl) (by simp) ?_
               refine AllReadyZ.cons rfl (fun KK hKK=>?_) (AllReadyZ.nil)
               go_simp
               refine hKK.out _ _ k9 (fun hSS=>?_)
               clear hKK hSS
               try simp only [Act.put,List.getElem_toArray,List.getElem_cons_zero,List.getElem_cons_succ,List.setIfInBounds_toArray,List.set_cons_zero,List.set_cons_succ]
               refine wpAnyZ_take (i:=15) (v:=?v15) rfl (by kernel_rfl) (by kernel_rfl) (by kernel_rfl) (fun _ _ _ h=>h) (Or.inl ⟨by rfl,?h15⟩) (by assumption) ?r15
               case h15=>(intro W hSw;(try dsimp only at hSw);go_simp;all_goals (with_reducible rfl))
               try simp only [Act.put,List.getElem_toArray,List.getElem_cons_zero,List.getElem_cons_succ,List.setIfInBounds_toArray,List.set_cons_zero,List.set_cons_succ]
               refine wpAnyZ_ready (rs:=[16]) (by kernel_rfl) (by simp) ?_
               refine AllReadyZ.last rfl (of_decide_eq_true (by kernel_rfl)) (fun KK hKK=>?_)
               go_simp
               refine hKK.out _ _ ?_
               clear hKK
               try simp only [Act.put,List.getElem_toArray,List.getElem_cons_zero,List.getElem_cons_succ,List.setIfInBounds_toArray,List.set_cons_zero,List.set_cons_succ]
               refine wpAnyZ_done (by kernel_rfl) ?_ _
               have HI:=Lib.hid (HR10.out.log.store (s2:=⟨s.rep,j,s.ws ++ [⟨t,re,K,key,val,N⟩]⟩) (((HO6.out.below HBc.out).mono (Nat.zero_le _))) (ownsW.mono HO10.out (Nat.zero_le _)) rfl (HPE.out.append_right _) (w.heap.size + 2) (fun k e=>Nat.le_trans HS6.out (HO6.out.lt k e).1) (fun k e=>Nat.le_trans HR.out.sz (HO10.out.lt k e).1))
               have HBU:Hid (But G w ((w10.setCell ⟨R,1,none⟩ (.slice au nj cu)).setCell ⟨R,2,none⟩ (.slice a10 n10 c10))):=Lib.hid (((But.of_below HR10.out.bel).setCell (.inl HR10.out.log.inR) _).setCell (.inl HR10.out.log.inR) _)
               have HRR2:Hid (((w10.setCell ⟨R,1,none⟩ (.slice au nj cu)).setCell ⟨R,2,none⟩ (.slice a10 n10 c10)).heap[w.heap.size + 1]? = some (.cells #[.int .i64 0,.int .i64 0] 24 (0,0))):=Lib.hid ((heap_setCell_other _ _ _ _ (by show w.heap.size + 1≠R;omega)).trans ((heap_setCell_other _ _ _ _ (by show w.heap.size + 1≠R;omega)).trans HR10.out.rowr))
               have HRB2:Hid (((w10.setCell ⟨R,1,none⟩ (.slice au nj cu)).setCell ⟨R,2,none⟩ (.slice a10 n10 c10)).heap[w.heap.size]? = some (.cells #[.int .i64 t,.int .i64 re,.int .i64 K,.string key,.string val,.int .i64 N] 26 (0,0))):=Lib.hid ((heap_setCell_other _ _ _ _ (by show w.heap.size≠R;omega)).trans ((heap_setCell_other _ _ _ _ (by show w.heap.size≠R;omega)).trans HR10.out.rowb))
               have HFL:=Lib.hid HR10.out.fl
               obtain ⟨X,hX⟩:∃ X,X=((w10.setCell ⟨R,1,none⟩ (.slice au nj cu)).setCell ⟨R,2,none⟩ (.slice a10 n10 c10)):=⟨_,rfl⟩
               rw [←hX] at HI HBU HRR2 HRB2 ⊢
               clear hX z1 z2 y1 y2 b0 b1 b2 b3 b4 b5 k0 k8 k9 r0 r1 g0 g1
               have b0:X.cell? ⟨w.heap.size,0,none⟩=some (.int .i64 t):=cell_of_row _ _ 0 _ _ _ HRB2.out
               have b1:X.cell? ⟨w.heap.size,1,none⟩=some (.int .i64 re):=cell_of_row _ _ 1 _ _ _ HRB2.out
               have r0:X.cell? ⟨w.heap.size + 1,0,none⟩=some (.int .i64 0):=cell_of_row _ _ 0 _ _ _ HRR2.out
               have r1:X.cell? ⟨w.heap.size + 1,1,none⟩=some (.int .i64 0):=cell_of_row _ _ 1 _ _ _ HRR2.out
               have g0:=Lib.frozen_of_heap HRR2.out 0
               have g1:=Lib.frozen_of_heap HRR2.out 1
               go_wp2
               have hR:=heap_setCell_same _ _ 1 _ _ (.int .i64 re) (heap_setCell_same _ _ 0 _ _ (.int .i64 t) HRR2.out)
               have hB1:But (fun k=>k=w.heap.size + 1) X ((X.setCell ⟨w.heap.size + 1,0,none⟩ (.int .i64 t)).setCell ⟨w.heap.size + 1,1,none⟩ (.int .i64 re)):=((But.refl (fun k=>k=w.heap.size + 1) X).setCell (.inl (show w.heap.size + 1=w.heap.size + 1 from rfl)) _).setCell (.inl (show w.heap.size + 1=w.heap.size + 1 from rfl)) _
               have hB2:But G w ((X.setCell ⟨w.heap.size + 1,0,none⟩ (.int .i64 t)).setCell ⟨w.heap.size + 1,1,none⟩ (.int .i64 re)):=(HBU.out.setCell (.inr (by simp)) _).setCell (.inr (by simp)) _
               obtain ⟨V,hV⟩:∃ V,V=(X.setCell ⟨w.heap.size + 1,0,none⟩ (.int .i64 t)).setCell ⟨w.heap.size + 1,1,none⟩ (.int .i64 re):=⟨_,rfl⟩
               rw [←hV] at hR hB1 hB2 ⊢
               clear hV
               have q0:=cell_of_row _ _ 0 _ _ _ hR
               have q1:=cell_of_row _ _ 1 _ _ _ hR
               refine bodyPost_ret (v:=.tuple #[.agg #[.int .i64 t,.int .i64 re],.int .i64 0]) (by simp [results,Tryz.results7,go_sem,q0,q1]) rfl ?_
               refine .inr ⟨HE.out,by rw [HTM.out,HRE.out],(fun k=>(G k∨w.heap.size + 2≤k)∧k < w10.heap.size),?_,?_,hB2⟩
               · rintro k ⟨hk | hk,_⟩
                 · exact .inl hk
                 · exact .inr (by omega)
               · rw [HS.out]
                 refine ⟨_,_,_,HI.out.but hB1 (fun k hk e=>?_)⟩
                 rcases hk.1 with h1 | h1
                 · have:=HFL.out k h1;omega
                 · omega
             · go_simp
               have HBa:Hid (Below w6.heap.size w6 (w6.alloc (.cells #[.int .i64 t,.int .i64 re,.int .i64 K,.string key,.string val,.int .i64 N] 26)).drew):=Lib.hid (((Below.refl _ _).alloc (Nat.le_refl _) _).drew)
               refine hKK.out _ _ (HSS.out _ HBa.out) (fun hSS=>?_)
               clear hKK hSS
               try simp only [Act.put,List.getElem_toArray,List.getElem_cons_zero,List.getElem_cons_succ,List.setIfInBounds_toArray,List.set_cons_zero,List.set_cons_succ]
               have HBK0:Hid (wrBlk (w6.alloc (.cells #[.int .i64 t,.int .i64 re,.int .i64 K,.string key,.string val,.int .i64 N] 26)).drew w6.heap.size ⟨t,re,K,key,val,N⟩):=Lib.hid (heap_alloc_new _ _)
               obtain ⟨w7,hw7⟩:∃ w7,w7=(w6.alloc (.cells #[.int .i64 t,.int .i64 re,.int .i64 K,.string key,.string val,.int .i64 N] 26)).drew:=⟨_,rfl⟩
               have HSZ7:Hid (w6.heap.size < w7.heap.size):=Lib.hid (by rw [hw7];simp)
               rw [←hw7] at HBa HBK0 ⊢
               clear hw7
               refine wpAnyZ_ready (rs:=[7]) (by kernel_rfl) (by simp) ?_
               refine AllReadyZ.cons rfl (fun KK hKK=>?_) (AllReadyZ.nil)
               refine step_append_wrsJ w7 rfl _ _ rfl w6.heap.size _ [] rfl (ownsW_nil _ _) _ u rfl (HUP.out _ HBa.out).log.wrs (by show 0 + u.length≤1000000;have:=HOK.out.len;have:=HNL.out;have:=HPE.out.length_eq;omega) HBa.out.size ?_
               rintro v7 w8 ho7 hg7 hv7
               rw [List.nil_append] at ho7
               have HBb:Hid (Below w6.heap.size w6 w8):=Lib.hid (HBa.out.grown hg7 HBa.out.size (fun g hg=>absurd (show (none:Option Nat)=some g from hg) (by simp)))
               have HBK:Hid (wrBlk w8 w6.heap.size ⟨t,re,K,key,val,N⟩):=Lib.hid ((hg7.block _ HSZ7.out (fun e=>absurd (show some w6.heap.size=(none:Option Nat) from e) (by simp))).trans HBK0.out)
               obtain ⟨a7,c7,rfl,_⟩:=ho7.is.form
               have HO8:=Lib.hid ho7
               clear hv7 hg7 ho7
               refine hKK.out _ _ (HSS.out _ HBb.out) (fun hSS=>?_)
               clear hKK hSS
               try simp only [Act.put,List.getElem_toArray,List.getElem_cons_zero,List.getElem_cons_succ,List.setIfInBounds_toArray,List.set_cons_zero,List.set_cons_succ]
               refine wpAnyZ_ready (rs:=[10]) (by kernel_rfl) (by simp) ?_
               refine AllReadyZ.cons rfl (fun KK hKK=>?_) (AllReadyZ.nil)
               refine step_append_wr rfl _ _ rfl w6.heap.size (.slice a7 u.length c7) u rfl HO8.out w6.heap.size 1 rfl ⟨t,re,K,key,val,N⟩ HBK.out (by have:=HOK.out.len;have:=HPE.out.length_eq;omega) HBb.out.size ?_
               rintro v10 w10 ho10 hg10 hv10
               have HBc:Hid (Below w6.heap.size w6 w10):=Lib.hid (HBb.out.grown hg10 HBb.out.size (fun g hg=>(HO8.out.lt g hg).1))
               obtain ⟨a10,c10,rfl,_⟩:=ho10.is.form
               obtain ⟨n10,hn10⟩:∃ n10,n10=(u ++ [(⟨t,re,K,key,val,N⟩:Wr)]).length:=⟨_,rfl⟩
               rw [←hn10] at ho10 ⊢
               have HO10:=Lib.hid ho10
               clear ho10 hg10 hv10 hn10
               refine hKK.out _ _ (HSS.out _ HBc.out) (fun hSS=>?_)
               clear hKK hSS
               try simp only [Act.put,List.getElem_toArray,List.getElem_cons_zero,List.getElem_cons_succ,List.setIfInBounds_toArray,List.set_cons_zero,List.set_cons_succ]
               have HR10:=Lib.hid (HUP.out _ HBc.out)
               have z1:=HR10.out.log.c1
               have z2:=HR10.out.log.c2
               obtain ⟨b0,b1,b2,b3,b4,b5⟩:=HR10.out.cb
               have k8:=HSS.out _ HBc.out
               have y1:=Lib.frozen_of_heap HR10.out.log.row 1
               have y2:=Lib.frozen_of_heap HR10.out.log.row 2
               have hq:∀ j u,w10.cell? ⟨w.heap.size,j,none⟩=some u→(w10.setCell ⟨R,1,none⟩ (.slice au nj cu)).cell? ⟨w.heap.size,j,none⟩=some u:=fun j u hu=>(World.cell?_setCell_other _ _ _ _ (by intro e;exact hne2 (congrArg Addr.block e))).trans hu
               have k9:(w10.setCell ⟨R,1,none⟩ (.slice au nj cu)).cell? ⟨R,2,none⟩=some (.slice al nl cl)∧(w10.setCell ⟨R,1,none⟩ (.slice au nj cu)).cell? ⟨w.heap.size,0,none⟩=some (.int .i64 t)∧(w10.setCell ⟨R,1,none⟩ (.slice au nj cu)).cell? ⟨w.heap.size,1,none⟩=some (.int .i64 re)∧(w10.setCell ⟨R,1,none⟩ (.slice au nj cu)).cell? ⟨w.heap.size,2,none⟩=some (.int .i64 K)∧(w10.setCell ⟨R,1,none⟩ (.slice au nj cu)).cell? ⟨w.heap.size,3,none⟩=some (.string key)∧(w10.setCell ⟨R,1,none⟩ (.slice au nj cu)).cell? ⟨w.heap.size,4,none⟩=some (.string val)∧(w10.setCell ⟨R,1,none⟩ (.slice au nj cu)).cell? ⟨w.heap.size,5,none⟩=some (.int .i64 N):=⟨(World.cell?_setCell_other _ _ _ _ (by simp)).trans z2,hq _ _ b0,hq _ _ b1,hq _ _ b2,hq _ _ b3,hq _ _ b4,hq _ _ b5⟩
               clear hq
               refine wpAnyZ_take (i:=11) (v:=?v11b) rfl (by kernel_rfl) (by kernel_rfl) (by kernel_rfl) (fun _ _ _ h=>h) (Or.inl ⟨by rfl,?h11b⟩) (by assumption) ?r11b
               case h11b=>(intro W hSw;(try dsimp only at hSw);go_simp;all_goals (with_reducible rfl))
               try simp only [Act.put,List.getElem_toArray,List.getElem_cons_zero,List.getElem_cons_succ,List.setIfInBounds_toArray,List.set_cons_zero,List.set_cons_succ]
               refine wpAnyZ_take (i:=12) (v:=?v12b) rfl (by kernel_rfl) (by kernel_rfl) (by kernel_rfl) (fun _ _ _ h=>h) (Or.inl ⟨by rfl,?h12b⟩) (by assumption) ?r12b
               case h12b=>(intro W hSw;(try dsimp only at hSw);go_simp;all_goals (with_reducible rfl))
               try simp only [Act.put,List.getElem_toArray,List.getElem_cons_zero,List.getElem_cons_succ,List.setIfInBounds_toArray,List.set_cons_zero,List.set_cons_succ]
               refine wpAnyZ_ready (rs:=[13]) (by kernel_rfl) (by simp) ?_
               refine AllReadyZ.cons rfl (fun KK hKK=>?_) (AllReadyZ.nil)
               go_simp
               refine hKK.out _ _ k9 (fun hSS=>?_)
               clear hKK hSS
               try simp only [Act.put,List.getElem_toArray,List.getElem_cons_zero,List.getElem_cons_succ,List.setIfInBounds_toArray,List.set_cons_zero,List.set_cons_succ]
               refine wpAnyZ_ready (rs:=[14]) (by kernel_rfl) (by simp) ?_
               refine AllReadyZ.cons rfl (fun KK hKK=>?_) (AllReadyZ.nil)
               go_simp
               refine hKK.out _ _ k9 (fun hSS=>?_)
               clear hKK hSS
               try simp only [Act.put,List.getElem_toArray,List.getElem_cons_zero,List.getElem_cons_succ,List.setIfInBounds_toArray,List.set_cons_zero,List.set_cons_succ]
               refine wpAnyZ_take (i:=15) (v:=?v15b) rfl (by kernel_rfl) (by kernel_rfl) (by kernel_rfl) (fun _ _ _ h=>h) (Or.inl ⟨by rfl,?h15b⟩) (by assumption) ?r15b
               case h15b=>(intro W hSw;(try dsimp only at hSw);go_simp;all_goals (with_reducible rfl))
               try simp only [Act.put,List.getElem_toArray,List.getElem_cons_zero,List.getElem_cons_succ,List.setIfInBounds_toArray,List.set_cons_zero,List.set_cons_succ]
               refine wpAnyZ_ready (rs:=[16]) (by kernel_rfl) (by simp) ?_
               refine AllReadyZ.last rfl (of_decide_eq_true (by kernel_rfl)) (fun KK hKK=>?_)
               go_simp
               refine hKK.out _ _ ?_
               clear hKK
               try simp only [Act.put,List.getElem_toArray,List.getElem_cons_zero,List.getElem_cons_succ,List.setIfInBounds_toArray,List.set_cons_zero,List.set_cons_succ]
               refine wpAnyZ_done (by kernel_rfl) ?_ _
               have HI:=Lib.hid (HR10.out.log.store (s2:=⟨s.rep,j,s.ws ++ [⟨t,re,K,key,val,N⟩]⟩) (((HO6.out.below HBc.out).mono (Nat.zero_le _))) (ownsW.mono HO10.out (Nat.zero_le _)) rfl (HPE.out.append_right _) (w.heap.size + 2) (fun k e=>Nat.le_trans HS6.out (HO6.out.lt k e).1) (fun k e=>Nat.le_trans HR.out.sz (HO10.out.lt k e).1))
               have HBU:Hid (But G w ((w10.setCell ⟨R,1,none⟩ (.slice au nj cu)).setCell ⟨R,2,none⟩ (.slice a10 n10 c10))):=Lib.hid (((But.of_below HR10.out.bel).setCell (.inl HR10.out.log.inR) _).setCell (.inl HR10.out.log.inR) _)
               have HRR2:Hid (((w10.setCell ⟨R,1,none⟩ (.slice au nj cu)).setCell ⟨R,2,none⟩ (.slice a10 n10 c10)).heap[w.heap.size + 1]? = some (.cells #[.int .i64 0,.int .i64 0] 24 (0,0))):=Lib.hid ((heap_setCell_other _ _ _ _ (by show w.heap.size + 1≠R;omega)).trans ((heap_setCell_other _ _ _ _ (by show w.heap.size + 1≠R;omega)).trans HR10.out.rowr))
               have HRB2:Hid (((w10.setCell ⟨R,1,none⟩ (.slice au nj cu)).setCell ⟨R,2,none⟩ (.slice a10 n10 c10)).heap[w.heap.size]? = some (.cells #[.int .i64 t,.int .i64 re,.int .i64 K,.string key,.string val,.int .i64 N] 26 (0,0))):=Lib.hid ((heap_setCell_other _ _ _ _ (by show w.heap.size≠R;omega)).trans ((heap_setCell_other _ _ _ _ (by show w.heap.size≠R;omega)).trans HR10.out.rowb))
               have HFL:=Lib.hid HR10.out.fl
               obtain ⟨X,hX⟩:∃ X,X=((w10.setCell ⟨R,1,none⟩ (.slice au nj cu)).setCell ⟨R,2,none⟩ (.slice a10 n10 c10)):=⟨_,rfl⟩
               rw [←hX] at HI HBU HRR2 HRB2 ⊢
               clear hX z1 z2 y1 y2 b0 b1 b2 b3 b4 b5 k0 k8 k9 r0 r1 g0 g1
               have b0:X.cell? ⟨w.heap.size,0,none⟩=some (.int .i64 t):=cell_of_row _ _ 0 _ _ _ HRB2.out
               have b1:X.cell? ⟨w.heap.size,1,none⟩=some (.int .i64 re):=cell_of_row _ _ 1 _ _ _ HRB2.out
               have r0:X.cell? ⟨w.heap.size + 1,0,none⟩=some (.int .i64 0):=cell_of_row _ _ 0 _ _ _ HRR2.out
               have r1:X.cell? ⟨w.heap.size + 1,1,none⟩=some (.int .i64 0):=cell_of_row _ _ 1 _ _ _ HRR2.out
               have g0:=Lib.frozen_of_heap HRR2.out 0
               have g1:=Lib.frozen_of_heap HRR2.out 1
               go_wp2
               have hR:=heap_setCell_same _ _ 1 _ _ (.int .i64 re) (heap_setCell_same _ _ 0 _ _ (.int .i64 t) HRR2.out)
               have hB1:But (fun k=>k=w.heap.size + 1) X ((X.setCell ⟨w.heap.size + 1,0,none⟩ (.int .i64 t)).setCell ⟨w.heap.size + 1,1,none⟩ (.int .i64 re)):=((But.refl (fun k=>k=w.heap.size + 1) X).setCell (.inl (show w.heap.size + 1=w.heap.size + 1 from rfl)) _).setCell (.inl (show w.heap.size + 1=w.heap.size + 1 from rfl)) _
               have hB2:But G w ((X.setCell ⟨w.heap.size + 1,0,none⟩ (.int .i64 t)).setCell ⟨w.heap.size + 1,1,none⟩ (.int .i64 re)):=(HBU.out.setCell (.inr (by simp)) _).setCell (.inr (by simp)) _
               obtain ⟨V,hV⟩:∃ V,V=(X.setCell ⟨w.heap.size + 1,0,none⟩ (.int .i64 t)).setCell ⟨w.heap.size + 1,1,none⟩ (.int .i64 re):=⟨_,rfl⟩
               rw [←hV] at hR hB1 hB2 ⊢
               clear hV
               have q0:=cell_of_row _ _ 0 _ _ _ hR
               have q1:=cell_of_row _ _ 1 _ _ _ hR
               refine bodyPost_ret (v:=.tuple #[.agg #[.int .i64 t,.int .i64 re],.int .i64 0]) (by simp [results,Tryz.results7,go_sem,q0,q1]) rfl ?_
               refine .inr ⟨HE.out,by rw [HTM.out,HRE.out],(fun k=>(G k∨w.heap.size + 2≤k)∧k < w10.heap.size),?_,?_,hB2⟩
               · rintro k ⟨hk | hk,_⟩
                 · exact .inl hk
                 · exact .inr (by omega)
               · rw [HS.out]
                 refine ⟨_,_,_,HI.out.but hB1 (fun k hk e=>?_)⟩
                 rcases hk.1 with h1 | h1
                 · have:=HFL.out k h1;omega
                 · omega
           · have e4n:(((e4:Nat):Int) == 0)=false:=by simpa using h5
             have HE:Hid (lcE s ⟨T0,R0,K,key,val,N⟩=e4):=Lib.hid (by rw [HJ0.out,HJ1.out,HJ.out])
             go_wp2
             obtain ⟨hR,hbR⟩:=HR.out.out (.int .i64 0) (.int .i64 0)
             obtain ⟨V,hV⟩:∃ V,V=(w6.setCell ⟨w.heap.size + 1,0,none⟩ (.int .i64 0)).setCell ⟨w.heap.size + 1,1,none⟩ (.int .i64 0):=⟨_,rfl⟩
             rw [←hV] at hR hbR ⊢
             clear hV
             have q0:=cell_of_row _ _ 0 _ _ _ hR
             have q1:=cell_of_row _ _ 1 _ _ _ hR
             refine bodyPost_ret (v:=.tuple #[.agg #[.int .i64 0,.int .i64 0],.int .i64 e4]) (by simp [results,Tryz.results7,go_sem,q0,q1]) rfl ?_
             exact .inl (by rw [HE.out];exact ⟨by first | exact h2 | exact h5 | simp,rfl,hbR⟩)
       · have e2n:(((e2:Nat):Int) == 0)=false:=by simpa using h2
         have HE:Hid (lcE s ⟨T0,R0,K,key,val,N⟩=e2):=Lib.hid (by rw [lcE_w (by have:=H4.out;omega) (by rw [HW2.out];exact h2),HW2.out])
         go_wp2
         obtain ⟨hR,hbR⟩:=HR.out.out (.int .i64 0) (.int .i64 0)
         obtain ⟨V,hV⟩:∃ V,V=(w5.setCell ⟨w.heap.size + 1,0,none⟩ (.int .i64 0)).setCell ⟨w.heap.size + 1,1,none⟩ (.int .i64 0):=⟨_,rfl⟩
         rw [←hV] at hR hbR ⊢
         clear hV
         have q0:=cell_of_row _ _ 0 _ _ _ hR
         have q1:=cell_of_row _ _ 1 _ _ _ hR
         refine bodyPost_ret (v:=.tuple #[.agg #[.int .i64 0,.int .i64 0],.int .i64 e2]) (by simp [results,Tryz.results7,go_sem,q0,q1]) rfl ?_
         exact .inl (by rw [HE.out];exact ⟨by first | exact h2 | exact h5 | simp,rfl,hbR⟩)
end Go.Proofs.YtddbpnplbcjpgaaGreatDoor
