import Derived.Test.YtddbpnplbcjpgaaGreatDoorLp20
namespace Go.Proofs.YtddbpnplbcjpgaaGreatDoor
open Go.RowKit
theorem step_append_wr {w:World} {ops:Array Oper} {o:Oper} {a:Act} {K:Act→World→Prop} {Q:Exit→Act→World→Prop} {E:Prop} (hgd:o.guard=none) (s x:Operand)
   (ho:o.op=.call { callee:=.builtin .append,args:=#[s,x],argTypes:=#[28,28] })
   (base:Nat) (v:Value) (l:List Wr) (hs:a.eval s=v) (hown:ownsW w base v l) (B c:Nat) (hx:a.eval x=.slice (some ⟨B,0,none⟩) 1 c) (t:Wr) (hcell:wrBlk w B t) (hlen:l.length + 1≤1000000) (hbase:base≤w.heap.size)
   (h:∀ v' w',ownsW w' base v' (l ++ [t])→w.grownBy w' v.ownBlock→(v'.ownBlock=v.ownBlock∨v'.ownBlock=some w.heap.size)→K (a.put o.dst v') w') :
   if Region.wanted o (yielded ops a.tmps)=true then Oper.wp Tryz.prog o a w K Q else E:=by
 have hw:Region.wanted o (yielded ops a.tmps)=true:=by simp [Region.wanted,hgd]
 rw [if_pos hw]
 obtain ⟨i0,hi,hz0,hz1,hz2⟩:=info_parts info_wr
 obtain ⟨v',w',hr,h1,h2,_,h4⟩:=run_append_own_at (P:=Tryz.prog) w base 28 o.type 26 i0 (.agg #[.int .i64 0,.int .i64 0,.int .i64 0,.string ⟨#[]⟩,.string ⟨#[]⟩,.int .i64 0]) 6 64 Tryz.underlying28 hi hz0 hz1 hz2 rfl (by decide) v l.length (wrsC l) hown ⟨B,0,none⟩ 1 c (wrC t) rfl (fun j u hj=>by
   have hadd:(⟨B,0,none⟩:Addr).add j=⟨B,j,none⟩:=by unfold Addr.add;split <;> simp_all
   rw [hadd,cell_of_row _ _ _ _ _ _ hcell,←hj]
   simp) (wrC_cell t) (by unfold maxLen;omega) (by omega) hbase
 unfold Oper.wp execOp
 simp only [ho,resolve,invoke,builtin,Sem.run_bind,Sem.run_pure,Result.andThen_ok,List.map_toArray,List.map_cons,List.map_nil,hs,hx,hr]
 refine h v' w' ?_ h2 h4
 unfold ownsW
 rw [List.length_append,wrsC_app,wrsC_one]
 exact h1
theorem log_wr:(72:TypeId)≠26:=by decide
theorem log_ent:(72:TypeId)≠62:=by decide
structure LC (w W:World) (P:Nat) (F:Nat→Prop) (s:LogS) (vh vw:Value) (T R K:Int) (key val:ByteArray) (N:Int):Prop where
 rowb:W.heap[w.heap.size]? = some (.cells #[.int .i64 T,.int .i64 R,.int .i64 K,.string key,.string val,.int .i64 N] 26 (0,0))
 rowr:W.heap[w.heap.size + 1]? = some (.cells #[.int .i64 0,.int .i64 0] 24 (0,0))
 log:LogIn W P F s vh vw
 bel:Below w.heap.size w W
 sz:w.heap.size + 2≤W.heap.size
 fl:∀ k,F k→k < w.heap.size
section
variable {w W:World} {P:Nat} {F:Nat→Prop} {s:LogS} {vh vw:Value} {T R K N:Int} {key val:ByteArray}
theorem LC.call {W':World} (h:LC w W P F s vh vw T R K key val N) (hb:Below W.heap.size W W'):LC w W' P F s vh vw T R K key val N :=
 ⟨(hb.block _ (by have:=h.sz;omega)).trans h.rowb,(hb.block _ (by have:=h.sz;omega)).trans h.rowr,h.log.below hb,h.bel.trans (hb.mono h.bel.size),Nat.le_trans h.sz hb.size,h.fl⟩
theorem LC.pb (h:LC w W P F s vh vw T R K key val N):P < w.heap.size:=h.fl P h.log.inP
theorem LC.set {j:Nat} {z:Value} {T' R':Int} (h:LC w W P F s vh vw T R K key val N) (hz:(#[.int .i64 T,.int .i64 R,.int .i64 K,.string key,.string val,.int .i64 N]:Array Value).setIfInBounds j z=#[.int .i64 T',.int .i64 R',.int .i64 K,.string key,.string val,.int .i64 N]) :
   LC w (W.setCell ⟨w.heap.size,j,none⟩ z) P F s vh vw T' R' K key val N :=
 ⟨by rw [←hz];exact heap_setCell_same _ _ j _ _ z h.rowb,(heap_setCell_other _ _ _ _ (by show _≠w.heap.size;omega)).trans h.rowr,h.log.but (G:=fun k=>k=w.heap.size) ((But.refl (fun k=>k=w.heap.size) W).setCell (.inl (show w.heap.size=w.heap.size from rfl)) _) (fun k hk e=>by have:=h.fl k hk;omega),
  h.bel.setCell (Nat.le_refl _) _,by simpa using h.sz,h.fl⟩
theorem LC.cb (h:LC w W P F s vh vw T R K key val N):W.cell? ⟨w.heap.size,0,none⟩=some (.int .i64 T)∧W.cell? ⟨w.heap.size,1,none⟩=some (.int .i64 R)∧W.cell? ⟨w.heap.size,2,none⟩=some (.int .i64 K)∧W.cell? ⟨w.heap.size,3,none⟩=some (.string key)∧W.cell? ⟨w.heap.size,4,none⟩=some (.string val)∧W.cell? ⟨w.heap.size,5,none⟩=some (.int .i64 N) :=
 ⟨cell_of_row _ _ 0 _ _ _ h.rowb,cell_of_row _ _ 1 _ _ _ h.rowb,cell_of_row _ _ 2 _ _ _ h.rowb,cell_of_row _ _ 3 _ _ _ h.rowb,cell_of_row _ _ 4 _ _ _ h.rowb,cell_of_row _ _ 5 _ _ _ h.rowb⟩
theorem LC.cr (h:LC w W P F s vh vw T R K key val N):(W.cell? ⟨w.heap.size + 1,0,none⟩=some (.int .i64 0)∧W.cell? ⟨w.heap.size + 1,1,none⟩=some (.int .i64 0))∧W.frozen? ⟨w.heap.size + 1,0,none⟩=false∧W.frozen? ⟨w.heap.size + 1,1,none⟩=false :=
 ⟨⟨cell_of_row _ _ 0 _ _ _ h.rowr,cell_of_row _ _ 1 _ _ _ h.rowr⟩,Lib.frozen_of_heap h.rowr 0,Lib.frozen_of_heap h.rowr 1⟩
theorem LC.out (h:LC w W P F s vh vw T R K key val N) (a b:Value):((W.setCell ⟨w.heap.size + 1,0,none⟩ a).setCell ⟨w.heap.size + 1,1,none⟩ b).heap[w.heap.size + 1]? = some (.cells #[a,b] 24 (0,0))∧Below w.heap.size w ((W.setCell ⟨w.heap.size + 1,0,none⟩ a).setCell ⟨w.heap.size + 1,1,none⟩ b) :=
 ⟨heap_setCell_same _ _ 1 _ _ b (heap_setCell_same _ _ 0 _ _ a h.rowr),(h.bel.setCell (by simp) _).setCell (by simp) _⟩
end
def LocIs (w:World) (P:Nat) (F:Nat→Prop) (s:LogS) (x:Wr) (e:Ending) (w':World):Prop :=
 (lcE s x≠0∧e=.returned (.tuple #[.agg #[.int .i64 0,.int .i64 0],.iface 40 (.int .i64 (lcE s x:Nat))])∧Below w.heap.size w w') ∨
 (lcE s x=0∧e=.returned (.tuple #[.agg #[.int .i64 (maxT s.hv + 1),.int .i64 s.rep],.nilIface])∧∃ F',(∀ k,F' k→F k∨w.heap.size≤k)∧LogAt w' P F' (lcS s x)∧But F w w')
theorem lcE_4 {s:LogS} {x:Wr} (h:1099511627776≤maxT s.hv):lcE s x=4:=by unfold lcE;rw [if_pos h]
theorem lcE_w {s:LogS} {x:Wr} (h:¬ 1099511627776≤maxT s.hv) (h2:wE (lcW s x)≠0):lcE s x=wE (lcW s x):=by unfold lcE;rw [if_neg h,if_pos h2]
theorem lcE_12 {s:LogS} {x:Wr} (h:¬ 1099511627776≤maxT s.hv) (h2:wE (lcW s x)=0) (h3:300≤s.ws.length):lcE s x=12:=by unfold lcE;rw [if_neg h,if_neg (by rw [h2];simp),if_pos h3]
theorem lcE_j {s:LogS} {x:Wr} (h:¬ 1099511627776≤maxT s.hv) (h2:wE (lcW s x)=0) (h3:¬ 300≤s.ws.length):lcE s x=(lcJ s).1:=by unfold lcE;rw [if_neg h,if_neg (by rw [h2];simp),if_neg h3]
theorem LogIn.local {w wr:World} {P:Nat} {F:Nat→Prop} {s s':LogS} {vh vw vh' vw':Value} (h:LogIn w P F s vh vw) (hg:w.grownBy wr vw.ownBlock) (hv:vw'.ownBlock=vw.ownBlock∨vw'.ownBlock=some w.heap.size)
   (he:ownsE wr 0 vh' s'.hv) (ho:ownsW wr 0 vw' s'.ws) (hr:s'.rep=s.rep) (hz:s'.ws≠[]) {m:Nat} (hhm:∀ k,vh'.ownBlock=some k→m≤k) (hm:m≤w.heap.size) :
   LogIn ((wr.setCell ⟨P,1,none⟩ vh').setCell ⟨P,2,none⟩ vw') P (fun k=>(F k∨m≤k)∧k < wr.heap.size) s' vh' vw':=by
 have hP:vw.ownBlock≠some P:=fun e=>by
   have:=ownsRow_row h.ows h.row (Ne.symm log_wr) e
   exact this
 have hrow:wr.heap[P]? = some (.cells #[.int .i64 s.rep,vh,vw] 72 (0,0)):=(hg.block P h.plt' (fun e=>hP e.symm)).trans h.row
 have r1:=heap_setCell_same _ _ 1 _ _ vh' hrow
 have r2:=heap_setCell_same _ _ 2 _ _ vw' r1
 have hB:But (fun k=>k=P) wr ((wr.setCell ⟨P,1,none⟩ vh').setCell ⟨P,2,none⟩ vw'):=((But.refl (fun k=>k=P) wr).setCell (.inl (show P=P from rfl)) _).setCell (.inl (show P=P from rfl)) _
 refine ⟨by rw [hr];exact r2,ownsRow_but he hB (fun k e e2=>?_),ownsRow_but ho hB (fun k e e2=>?_),⟨.inl h.inP,Nat.lt_of_lt_of_le h.plt' hg.size⟩,fun k e=>⟨.inr (hhm k e),(ownsE.lt he k e).2⟩,fun k e=>⟨?_,(ownsW.lt ho k e).2⟩,fun k hk=>by simpa using hk.2,fun e=>absurd e hz⟩
 · subst e2;exact ownsRow_row he hrow (Ne.symm log_ent) e
 · subst e2;exact ownsRow_row ho hrow (Ne.symm log_wr) e
 · rcases hv with hv | hv
   · rw [hv] at e;exact .inl (h.inW k e)
   · rw [hv] at e;obtain rfl:=Option.some.inj e;exact .inr hm
set_option maxRecDepth 100000 in
set_option maxHeartbeats 8000000 in
theorem llocal_any (P:Nat) (F:Nat→Prop) (s:LogS) (T0 R0 K:Int) (key val:ByteArray) (N:Int) (w:World) (h:LogAt w P F s) (ok:LogOk s) (hk:key.size≤140737488351232) (hv:val.size≤140737488351232) (hg:errT w) :
   Calls Tryz.prog 8 #[.pointer (some ⟨P,0,none⟩),.agg #[.int .i64 T0,.int .i64 R0,.int .i64 K,.string key,.string val,.int .i64 N]] w (LocIs w P F s ⟨T0,R0,K,key,val,N⟩):=by
 obtain ⟨vh,vw,h⟩:=h
 have HOK:=Lib.hid ok
 obtain ⟨m,hm⟩:∃ m,m=maxT s.hv:=⟨_,rfl⟩
 have HM:=Lib.hid hm
 have hmb:=maxT_bd ok.hv.2
 rw [←hm] at hmb
 obtain ⟨hm0,hm1⟩:=hmb
 obtain ⟨t,ht⟩:∃ t,t=m + 1:=⟨_,rfl⟩
 have HTM:Hid (maxT s.hv + 1=t):=Lib.hid (by rw [←hm,←ht])
 obtain ⟨re,hre⟩:∃ re,re=s.rep:=⟨_,rfl⟩
 have HRE:=Lib.hid hre
 have HX:Hid (lcW s ⟨T0,R0,K,key,val,N⟩=⟨t,re,K,key,val,N⟩):=Lib.hid (by unfold lcW;rw [HTM.out,←hre])
 obtain ⟨n,hn⟩:∃ n,n=s.ws.length:=⟨_,rfl⟩
 have HN:=Lib.hid hn
 obtain ⟨aw,cw,rfl,_⟩:=h.ows.is.form
 rw [←hn] at h
 have hn3:n≤300:=by rw [hn];exact ok.len
 have HWB0:Hid (LC w ((w.alloc (.cells #[.int .i64 T0,.int .i64 R0,.int .i64 K,.string key,.string val,.int .i64 N] 26)).alloc (.cells #[.int .i64 0,.int .i64 0] 24)) P F s vh (.slice aw n cw) T0 R0 K key val N):=Lib.hid
   ⟨by rw [Below.heap_alloc _ _ _ (by simp)];exact heap_alloc_new _ _,by have:=heap_alloc_new (w.alloc (.cells #[.int .i64 T0,.int .i64 R0,.int .i64 K,.string key,.string val,.int .i64 N] 26)) (.cells #[.int .i64 0,.int .i64 0] 24);rwa [World.size_alloc] at this,
     (h.below ((Below.refl _ _).alloc (Nat.le_refl _) _)).below ((Below.refl _ _).alloc (Nat.le_refl _) _),((Below.refl _ _).alloc (Nat.le_refl _) _).alloc (by simp) _,by simp,h.lt⟩
 have HG:=Lib.hid hg
 have HKV:Hid (key.size≤140737488351232∧val.size≤140737488351232):=Lib.hid ⟨hk,hv⟩
 have ht0:1≤t:=by omega
 have ht1:t≤1099511627777:=by omega
 have HT2:Hid (1099511627776 < t↔1099511627776≤maxT s.hv):=Lib.hid (by rw [←hm];omega)
 have HLE0:Hid (lcE s ⟨T0,R0,K,key,val,N⟩=lcE s ⟨T0,R0,K,key,val,N⟩):=Lib.hid rfl
 clear h ok hm hre hn hg hk hv ht hm0 hm1 HM HLE0
 go_enter Tryz.func8,Tryz.ntmps8
 go_wp2
 obtain ⟨W,hW⟩:∃ W,W=(w.alloc (.cells #[.int .i64 T0,.int .i64 R0,.int .i64 K,.string key,.string val,.int .i64 N] 26)).alloc (.cells #[.int .i64 0,.int .i64 0] 24):=⟨_,rfl⟩
 rw [←hW] at HWB0 ⊢
 clear hW
 have HW1:Hid (LC w W.drew P F s vh (.slice aw n cw) T0 R0 K key val N):=Lib.hid (HWB0.out.call (Below.refl _ _).drew)
 have hpb:=HW1.out.pb
 have hne:¬ w.heap.size=P:=by omega
 have hne2:¬ P=w.heap.size:=by omega
 have hne3:¬ w.heap.size + 1=P:=by omega
 have hne4:¬ P=w.heap.size + 1:=by omega
 have hne5:¬ w.heap.size + 1=w.heap.size:=by omega
 have hne6:¬ w.heap.size=w.heap.size + 1:=by omega
 have k0:W.drew.cell? ⟨P,0,none⟩=some (.int .i64 re):=HW1.out.log.c0.trans (by rw [←HRE.out])
 go_region_held3 (fun w'=>w'.cell? ⟨P,0,none⟩=some (.int .i64 re)) (first | exact k0 | exact k1 | exact k2 | exact k3 | fail) (first
   | (go_at_call 26;((with_reducible refine (lnext_any P s F vh (.slice aw n cw) W.drew HW1.out.log HOK.out).mono ?_);rintro r w1 ⟨rfl,hb1⟩;rw [HTM.out];have HW2:Hid (LC w w1 P F s vh (.slice aw n cw) T0 R0 K key val N):=Lib.hid (HW1.out.call hb1);have k1:w1.cell? ⟨P,0,none⟩=some (.int .i64 re):=HW2.out.log.c0.trans (by rw [←HRE.out]);have q0:=HW2.out.cb.1;have q1:=HW2.out.cb.2.1;have f0:=Lib.frozen_of_heap HW2.out.rowb 0;have f1:=Lib.frozen_of_heap HW2.out.rowb 1;have HW3:Hid (LC w (w1.setCell ⟨w.heap.size,0,none⟩ (.int .i64 t)) P F s vh (.slice aw n cw) t R0 K key val N):=Lib.hid (HW2.out.set rfl);have HW4:Hid (LC w ((w1.setCell ⟨w.heap.size,0,none⟩ (.int .i64 t)).setCell ⟨w.heap.size,1,none⟩ (.int .i64 re)) P F s vh (.slice aw n cw) t re K key val N):=Lib.hid (HW3.out.set rfl);have k2:(w1.setCell ⟨w.heap.size,0,none⟩ (.int .i64 t)).cell? ⟨P,0,none⟩=some (.int .i64 re):=HW3.out.log.c0.trans (by rw [←HRE.out]);have k3:((w1.setCell ⟨w.heap.size,0,none⟩ (.int .i64 t)).setCell ⟨w.heap.size,1,none⟩ (.int .i64 re)).cell? ⟨P,0,none⟩=some (.int .i64 re):=HW4.out.log.c0.trans (by rw [←HRE.out]);clear hb1))
   | fail)
 obtain ⟨W4,hW4⟩:∃ W4,W4=(w1.setCell ⟨w.heap.size,0,none⟩ (.int .i64 t)).setCell ⟨w.heap.size,1,none⟩ (.int .i64 re):=⟨_,rfl⟩
 rw [←hW4] at HW4 ⊢
 obtain ⟨c0,c1,c2,c3,c4,c5⟩:=HW4.out.cb
 obtain ⟨⟨r0,r1⟩,g0,g1⟩:=HW4.out.cr
 clear hW4 k0 k1 k2 k3 q0 q1 f0 f1 HW3 HW2 HW1 HWB0
 by_cases h4:1099511627776 < t
 · have HE:Hid (lcE s ⟨T0,R0,K,key,val,N⟩=4):=Lib.hid (lcE_4 (HT2.out.1 h4))
   go_wp2
   obtain ⟨hR,hbR⟩:=HW4.out.out (.int .i64 0) (.int .i64 0)
   obtain ⟨V,hV⟩:∃ V,V=(W4.setCell ⟨w.heap.size + 1,0,none⟩ (.int .i64 0)).setCell ⟨w.heap.size + 1,1,none⟩ (.int .i64 0):=⟨_,rfl⟩
   rw [←hV] at hR hbR ⊢
   clear hV
   have q0:=cell_of_row _ _ 0 _ _ _ hR
   have q1:=cell_of_row _ _ 1 _ _ _ hR
   refine bodyPost_ret (v:=.tuple #[.agg #[.int .i64 0,.int .i64 0],.iface 40 (.int .i64 4)]) (by simp [results,Tryz.results8,go_sem,q0,q1]) rfl ?_
   exact .inl (by rw [HE.out];exact ⟨by simp,rfl,hbR⟩)
 · have h4b:decide ((1099511627776:Int) < t)=false:=by simpa using h4
   have H4:Hid (¬ 1099511627776≤maxT s.hv):=Lib.hid (fun e=>h4 (HT2.out.2 e))
   have hkk:key.size≤140737488351232:=HKV.out.1
   have hvv:val.size≤140737488351232:=HKV.out.2
   obtain ⟨e2,he2⟩:∃ e2,e2=wriE t re K key val N:=⟨_,rfl⟩
   have HW2:Hid (wE (lcW s ⟨T0,R0,K,key,val,N⟩)=e2):=Lib.hid (by rw [HX.out,he2];rfl)
   have HV2:=Lib.hid he2.symm
   clear h4 he2
   by_cases h2:e2=0
   · subst h2
     by_cases h3:300≤n
     · have h3b:decide ((300:Int)≤(n:Int))=true:=by simp;omega
       have HE:Hid (lcE s ⟨T0,R0,K,key,val,N⟩=12):=Lib.hid (lcE_12 (by have:=H4.out;omega) HW2.out (by rw [←HN.out];exact h3))
       go_wp2_with (go_at_call 27;refine (wright_any t re K key val N _ hkk hvv).mono ?_;rintro r w5 ⟨rfl,hb5⟩;rw [HV2.out,errV_ok];have HW5:Hid (LC w w5 P F s vh (.slice aw n cw) t re K key val N):=Lib.hid (HW4.out.call hb5);have p2:=HW5.out.log.c2;have r0:=HW5.out.cr.1.1;have r1:=HW5.out.cr.1.2;have g0:=HW5.out.cr.2.1;have g1:=HW5.out.cr.2.2;clear hb5)
       obtain ⟨hR,hbR⟩:=HW5.out.out (.int .i64 0) (.int .i64 0)
       obtain ⟨V,hV⟩:∃ V,V=(w5.setCell ⟨w.heap.size + 1,0,none⟩ (.int .i64 0)).setCell ⟨w.heap.size + 1,1,none⟩ (.int .i64 0):=⟨_,rfl⟩
       rw [←hV] at hR hbR ⊢
       clear hV
       have q0:=cell_of_row _ _ 0 _ _ _ hR
       have q1:=cell_of_row _ _ 1 _ _ _ hR
       refine bodyPost_ret (v:=.tuple #[.agg #[.int .i64 0,.int .i64 0],.iface 40 (.int .i64 12)]) (by simp [results,Tryz.results8,go_sem,q0,q1]) rfl ?_
       exact .inl (by rw [HE.out];exact ⟨by simp,rfl,hbR⟩)
     · have h3b:decide ((300:Int)≤(n:Int))=false:=by simp;omega
       have HJ0:Hid (lcE s ⟨T0,R0,K,key,val,N⟩=(lcJ s).1):=Lib.hid (lcE_j (by have:=H4.out;omega) HW2.out (by rw [←HN.out];exact h3))
       go_wp2_with (go_at_call 27;refine (wright_any t re K key val N _ hkk hvv).mono ?_;rintro r w5 ⟨rfl,hb5⟩;rw [HV2.out,errV_ok];have HW5:Hid (LC w w5 P F s vh (.slice aw n cw) t re K key val N):=Lib.hid (HW4.out.call hb5);have p2:=HW5.out.log.c2;clear hb5)
       clear HW4 c0 c1 c2 c3 c4 c5 p2 r0 r1 g0 g1
       have HJ1:Hid (lcJ s=joinR s.hv [⟨re,t⟩]):=Lib.hid (by unfold lcJ;rw [HTM.out,←HRE.out])
       obtain ⟨e4,j,hj⟩:∃ e4 j,joinR s.hv [⟨re,t⟩]=(e4,j):=⟨_,_,rfl⟩
       have HJ:=Lib.hid hj
       obtain ⟨ah,ch,rfl,_⟩:=HW5.out.log.ents.is.form
       have hhl:Hid (s.hv.length≤9223372036854775807):=Lib.hid (by have:=HOK.out.hv.1;omega)
       obtain ⟨nh,hnh⟩:∃ nh,nh=s.hv.length:=⟨_,rfl⟩
       rw [←hnh] at HW5
       have p1:=HW5.out.log.c1
       obtain ⟨c0,c1,c2,c3,c4,c5⟩:=HW5.out.cb
       have HGW:Hid (errT w5.drew):=Lib.hid (HG.out.below HW5.out.bel.drew)
       clear hj hnh h3
       have k0:w5.drew.cell? ⟨P,1,none⟩=some (.slice ah nh ch)∧w5.drew.cell? ⟨w.heap.size,0,none⟩=some (.int .i64 t)∧w5.drew.cell? ⟨w.heap.size,1,none⟩=some (.int .i64 re):=⟨p1,c0,c1⟩
       go_region_held3 (fun w'=>w'.cell? ⟨P,1,none⟩=some (.slice ah nh ch)∧w'.cell? ⟨w.heap.size,0,none⟩=some (.int .i64 t)∧w'.cell? ⟨w.heap.size,1,none⟩=some (.int .i64 re)) (first | exact k0 | exact k1 | fail) (first
         | (go_at_call 28;((with_reducible refine (land_any (.slice ah nh ch) s.hv t re w5.drew HW5.out.log.ents.drew.is hhl.out HGW.out e4 j HJ.out).mono ?_);rintro r w6 ⟨u,rfl,ho6,hb6⟩;obtain ⟨au,cu,rfl,_⟩:=ho6.is.form;obtain ⟨nj,hnj⟩:∃ nj,nj=j.length:=⟨_,rfl⟩;rw [←hnj] at ho6 ⊢;clear hnj;have HW6:Hid (LC w w6 P F s (.slice ah nh ch) (.slice aw n cw) t re K key val N):=Lib.hid (HW5.out.call ((Below.refl _ _).drew.trans hb6));have HO6:Hid (ownsE w6 w5.heap.size (.slice au nj cu) j):=Lib.hid ho6;have HW6S:Hid (w5.heap.size≤w6.heap.size):=Lib.hid ((Below.refl _ _).drew.trans hb6).size;have k1:w6.cell? ⟨P,1,none⟩=some (.slice ah nh ch)∧w6.cell? ⟨w.heap.size,0,none⟩=some (.int .i64 t)∧w6.cell? ⟨w.heap.size,1,none⟩=some (.int .i64 re):=⟨HW6.out.log.c1,HW6.out.cb.1,HW6.out.cb.2.1⟩;clear ho6 hb6))
         | fail)
       have HS5:Hid (w.heap.size + 2≤w5.heap.size):=Lib.hid HW5.out.sz
       clear k0 k1 p1 c0 c1 c2 c3 c4 c5 HGW HW5
       obtain ⟨⟨r0,r1⟩,g0,g1⟩:=HW6.out.cr
       by_cases h5:e4=0
       · subst h5
         have HE:Hid (lcE s ⟨T0,R0,K,key,val,N⟩=0):=Lib.hid (by rw [HJ0.out,HJ1.out,HJ.out])
         rw [noV_0]
         have p2:=HW6.out.log.c2
         obtain ⟨c0,c1,c2,c3,c4,c5⟩:=HW6.out.cb
         go_wp2
         have HUP:Hid (∀ W',Below w6.heap.size w6 W'→LC w W' P F s (.slice ah nh ch) (.slice aw n cw) t re K key val N):=Lib.hid (fun W' hb=>HW6.out.call hb)
         have HB6:Hid (Below w6.heap.size w6 w6.drew):=Lib.hid (Below.refl _ _).drew
         have k0:w6.drew.cell? ⟨P,2,none⟩=some (.slice aw n cw)∧w6.drew.cell? ⟨w.heap.size,0,none⟩=some (.int .i64 t)∧w6.drew.cell? ⟨w.heap.size,1,none⟩=some (.int .i64 re)∧w6.drew.cell? ⟨w.heap.size,2,none⟩=some (.int .i64 K)∧w6.drew.cell? ⟨w.heap.size,3,none⟩=some (.string key)∧w6.drew.cell? ⟨w.heap.size,4,none⟩=some (.string val)∧w6.drew.cell? ⟨w.heap.size,5,none⟩=some (.int .i64 N):=⟨p2,HW6.out.cb⟩
         clear p2 c0 c1 c2 c3 c4 c5
         refine wp_region_Z 16 (S:=fun W'=>W'.cell? ⟨P,2,none⟩=some (.slice aw n cw)∧W'.cell? ⟨w.heap.size,0,none⟩=some (.int .i64 t)∧W'.cell? ⟨w.heap.size,1,none⟩=some (.int .i64 re)∧W'.cell? ⟨w.heap.size,2,none⟩=some (.int .i64 K)∧W'.cell? ⟨w.heap.size,3,none⟩=some (.string key)∧W'.cell? ⟨w.heap.size,4,none⟩=some (.string val)∧W'.cell? ⟨w.heap.size,5,none⟩=some (.int .i64 N)) (by kernel_rfl) k0 (fun hSS=>?_)
         clear hSS
         try simp only [Act.put,List.getElem_toArray,List.getElem_cons_zero,List.setIfInBounds_toArray,List.set_cons_zero,List.set_cons_succ]
         refine wpAnyZ_take (i:=0) (v:=?v0) rfl (by kernel_rfl) (by kernel_rfl) (by kernel_rfl) (fun _ _ _ h=>h) (Or.inl ⟨by rfl,?h0⟩) (by assumption) ?r0
         case h0=>(intro W hSw;(try dsimp only at hSw);go_simp;all_goals (with_reducible rfl))
         try simp only [Act.put,List.getElem_toArray,List.getElem_cons_zero,List.setIfInBounds_toArray,List.set_cons_zero,List.set_cons_succ]
         refine wpAnyZ_take (i:=1) (v:=?v1) rfl (by kernel_rfl) (by kernel_rfl) (by kernel_rfl) (fun _ _ _ h=>h) (Or.inl ⟨by rfl,?h1⟩) (by assumption) ?r1
         case h1=>(intro W hSw;(try dsimp only at hSw);go_simp;all_goals (with_reducible rfl))
         try simp only [Act.put,List.getElem_toArray,List.getElem_cons_zero,List.getElem_cons_succ,List.setIfInBounds_toArray,List.set_cons_zero,List.set_cons_succ]
         refine wpAnyZ_take (i:=2) (v:=?v2) rfl (by kernel_rfl) (by kernel_rfl) (by kernel_rfl) (fun _ _ _ h=>h) (Or.inl ⟨by rfl,?h2⟩) (by assumption) ?r2
         case h2=>(intro W hSw;(try dsimp only at hSw);go_simp;all_goals (with_reducible rfl))
         try simp only [Act.put,List.getElem_toArray,List.getElem_cons_zero,List.getElem_cons_succ,List.setIfInBounds_toArray,List.set_cons_zero,List.set_cons_succ]
         refine wpAnyZ_take (i:=3) (v:=?v3) rfl (by kernel_rfl) (by kernel_rfl) (by kernel_rfl) (fun _ _ _ h=>h) (Or.inl ⟨by rfl,?h3⟩) (by assumption) ?r3
         case h3=>(intro W hSw;(try dsimp only at hSw);go_simp;all_goals (with_reducible rfl))
         try simp only [Act.put,List.getElem_toArray,List.getElem_cons_zero,List.getElem_cons_succ,List.setIfInBounds_toArray,List.set_cons_zero,List.set_cons_succ]
         refine wpAnyZ_take (i:=4) (v:=?v4) rfl (by kernel_rfl) (by kernel_rfl) (by kernel_rfl) (fun _ _ _ h=>h) (Or.inl ⟨by rfl,?h4⟩) (by assumption) ?r4
         case h4=>(intro W hSw;(try dsimp only at hSw);go_simp;all_goals (with_reducible rfl))
         try simp only [Act.put,List.getElem_toArray,List.getElem_cons_zero,List.getElem_cons_succ,List.setIfInBounds_toArray,List.set_cons_zero,List.set_cons_succ]
         refine wpAnyZ_take (i:=5) (v:=?v5) rfl (by kernel_rfl) (by kernel_rfl) (by kernel_rfl) (fun _ _ _ h=>h) (Or.inl ⟨by rfl,?h5⟩) (by assumption) ?r5
         case h5=>(intro W hSw;(try dsimp only at hSw);go_simp;all_goals (with_reducible rfl))
         try simp only [Act.put,List.getElem_toArray,List.getElem_cons_zero,List.getElem_cons_succ,List.setIfInBounds_toArray,List.set_cons_zero,List.set_cons_succ]
         refine wpAnyZ_take (i:=6) (v:=?v6) rfl (by kernel_rfl) (by kernel_rfl) (by kernel_rfl) (fun _ _ _ h=>h) (Or.inl ⟨by rfl,?h6⟩) (by assumption) ?r6
         case h6=>(intro W hSw;(try dsimp only at hSw);go_simp;all_goals (with_reducible rfl))
         try simp only [Act.put,List.getElem_toArray,List.getElem_cons_zero,List.getElem_cons_succ,List.setIfInBounds_toArray,List.set_cons_zero,List.set_cons_succ]
         refine wpAnyZ_take (i:=7) (v:=?v7) rfl (by kernel_rfl) (by kernel_rfl) (by kernel_rfl) (fun _ _ _ h=>h) (Or.inl ⟨by rfl,?h7⟩) (by assumption) ?r7
         case h7=>(intro W hSw;(try dsimp only at hSw);go_simp;all_goals (with_reducible rfl))
         try simp only [Act.put,List.getElem_toArray,List.getElem_cons_zero,List.getElem_cons_succ,List.setIfInBounds_toArray,List.set_cons_zero,List.set_cons_succ]
         refine wpAnyZ_ready (rs:=[8]) (by kernel_rfl) (by simp) ?_
         refine AllReadyZ.cons rfl (fun KK hKK=>?_) (AllReadyZ.nil)
         go_simp
         refine (lapart_any t re K key val N w6.drew hkk hvv).mono ?_
         rintro r w7 ⟨rfl,hb7⟩
         have HB7:Hid (Below w6.heap.size w6 w7):=Lib.hid (HB6.out.trans hb7)
         have HW7:=Lib.hid (HUP.out w7 HB7.out)
         refine hKK.out _ _ ⟨HW7.out.log.c2,HW7.out.cb⟩ (fun hSS=>?_)
         clear hKK hSS hb7
         try simp only [Act.put,List.getElem_toArray,List.getElem_cons_zero,List.getElem_cons_succ,List.setIfInBounds_toArray,List.set_cons_zero,List.set_cons_succ]
         refine wpAnyZ_ready (rs:=[9]) (by kernel_rfl) (by simp) ?_
         refine AllReadyZ.cons rfl (fun KK hKK=>?_) (AllReadyZ.nil)
         go_simp
         have HB8:Hid (Below w6.heap.size w6 (w7.alloc (.cells #[.int .i64 t,.int .i64 re,.int .i64 K,.string key,.string val,.int .i64 N] 26))):=Lib.hid (HB7.out.alloc HB7.out.size _)
         have HW8:=Lib.hid (HUP.out _ HB8.out)
         refine hKK.out _ _ ⟨HW8.out.log.c2,HW8.out.cb⟩ (fun hSS=>?_)
         clear hKK hSS
         try simp only [Act.put,List.getElem_toArray,List.getElem_cons_zero,List.getElem_cons_succ,List.setIfInBounds_toArray,List.set_cons_zero,List.set_cons_succ]
         have HBK:Hid (wrBlk (w7.alloc (.cells #[.int .i64 t,.int .i64 re,.int .i64 K,.string key,.string val,.int .i64 N] 26)) w7.heap.size ⟨t,re,K,key,val,N⟩):=Lib.hid (heap_alloc_new _ _)
         obtain ⟨w8,hw8⟩:∃ w8,w8=w7.alloc (.cells #[.int .i64 t,.int .i64 re,.int .i64 K,.string key,.string val,.int .i64 N] 26):=⟨_,rfl⟩
         rw [←hw8] at HB8 HW8 HBK ⊢
         clear hw8
         refine wpAnyZ_ready (rs:=[10]) (by kernel_rfl) (by simp) ?_
         refine AllReadyZ.cons rfl (fun KK hKK=>?_) (AllReadyZ.nil)
         refine step_append_wr rfl _ _ rfl 0 (.slice aw n cw) s.ws rfl HW8.out.log.ows w7.heap.size 1 rfl ⟨t,re,K,key,val,N⟩ HBK.out (by have:=HOK.out.len;omega) (Nat.zero_le _) ?_
         rintro v9 w9 ho9 hg9 hv9
         have hnP:∀ k,Value.ownBlock (.slice aw n cw)=some k→k < w.heap.size∧k≠P:=fun k e=>⟨HW8.out.fl k (HW8.out.log.inW k e),fun e2=>by subst e2;exact ownsRow_row HW8.out.log.ows HW8.out.log.row (Ne.symm log_wr) e⟩
         have hrowP:w9.heap[P]? = some (.cells #[.int .i64 s.rep,.slice ah nh ch,.slice aw n cw] 72 (0,0)):=(hg9.block P HW8.out.log.plt' (fun e=>(hnP P e.symm).2 rfl)).trans HW8.out.log.row
         have hrowb:w9.heap[w.heap.size]? = some (.cells #[.int .i64 t,.int .i64 re,.int .i64 K,.string key,.string val,.int .i64 N] 26 (0,0)):=(hg9.block _ (by have:=HW8.out.sz;omega) (fun e=>by have:=(hnP _ e.symm).1;omega)).trans HW8.out.rowb
         have hrowr:w9.heap[w.heap.size + 1]? = some (.cells #[.int .i64 0,.int .i64 0] 24 (0,0)):=(hg9.block _ (by have:=HW8.out.sz;omega) (fun e=>by have:=(hnP _ e.symm).1;omega)).trans HW8.out.rowr
         obtain ⟨a9,c9,rfl,_⟩:=ho9.is.form
         obtain ⟨n9,hn9⟩:∃ n9,n9=(s.ws ++ [(⟨t,re,K,key,val,N⟩:Wr)]).length:=⟨_,rfl⟩
         rw [←hn9] at ho9 hv9 ⊢
         have HO9:=Lib.hid ho9
         have HG9:=Lib.hid hg9
         have HV9:=Lib.hid hv9
         have HNP:=Lib.hid hnP
         have HRP:=Lib.hid hrowP
         have HRB:=Lib.hid hrowb
         have HRR:=Lib.hid hrowr
         have z1:w9.cell? ⟨P,1,none⟩=some (.slice ah nh ch):=cell_of_row _ _ 1 _ _ _ hrowP
         have z2:w9.cell? ⟨P,2,none⟩=some (.slice aw n cw):=cell_of_row _ _ 2 _ _ _ hrowP
         have y1:=Lib.frozen_of_heap hrowP 1
         have y2:=Lib.frozen_of_heap hrowP 2
         have b0:w9.cell? ⟨w.heap.size,0,none⟩=some (.int .i64 t):=cell_of_row _ _ 0 _ _ _ hrowb
         have b1:w9.cell? ⟨w.heap.size,1,none⟩=some (.int .i64 re):=cell_of_row _ _ 1 _ _ _ hrowb
         have b2:w9.cell? ⟨w.heap.size,2,none⟩=some (.int .i64 K):=cell_of_row _ _ 2 _ _ _ hrowb
         have b3:w9.cell? ⟨w.heap.size,3,none⟩=some (.string key):=cell_of_row _ _ 3 _ _ _ hrowb
         have b4:w9.cell? ⟨w.heap.size,4,none⟩=some (.string val):=cell_of_row _ _ 4 _ _ _ hrowb
         have b5:w9.cell? ⟨w.heap.size,5,none⟩=some (.int .i64 N):=cell_of_row _ _ 5 _ _ _ hrowb
         have hq:∀ j u,w9.cell? ⟨w.heap.size,j,none⟩=some u→(w9.setCell ⟨P,1,none⟩ (.slice au nj cu)).cell? ⟨w.heap.size,j,none⟩=some u:=fun j u hu=>(World.cell?_setCell_other _ _ _ _ (by intro e;exact hne2 (congrArg Addr.block e))).trans hu
         have k9:(w9.setCell ⟨P,1,none⟩ (.slice au nj cu)).cell? ⟨P,2,none⟩=some (.slice aw n cw)∧(w9.setCell ⟨P,1,none⟩ (.slice au nj cu)).cell? ⟨w.heap.size,0,none⟩=some (.int .i64 t)∧(w9.setCell ⟨P,1,none⟩ (.slice au nj cu)).cell? ⟨w.heap.size,1,none⟩=some (.int .i64 re)∧(w9.setCell ⟨P,1,none⟩ (.slice au nj cu)).cell? ⟨w.heap.size,2,none⟩=some (.int .i64 K)∧(w9.setCell ⟨P,1,none⟩ (.slice au nj cu)).cell? ⟨w.heap.size,3,none⟩=some (.string key)∧(w9.setCell ⟨P,1,none⟩ (.slice au nj cu)).cell? ⟨w.heap.size,4,none⟩=some (.string val)∧(w9.setCell ⟨P,1,none⟩ (.slice au nj cu)).cell? ⟨w.heap.size,5,none⟩=some (.int .i64 N) :=
           ⟨(World.cell?_setCell_other _ _ _ _ (by simp)).trans z2,hq _ _ b0,hq _ _ b1,hq _ _ b2,hq _ _ b3,hq _ _ b4,hq _ _ b5⟩
         clear ho9 hg9 hv9 hnP hrowP hrowb hrowr hn9 hq
         have k8:w9.cell? ⟨P,2,none⟩=some (.slice aw n cw)∧w9.cell? ⟨w.heap.size,0,none⟩=some (.int .i64 t)∧w9.cell? ⟨w.heap.size,1,none⟩=some (.int .i64 re)∧w9.cell? ⟨w.heap.size,2,none⟩=some (.int .i64 K)∧w9.cell? ⟨w.heap.size,3,none⟩=some (.string key)∧w9.cell? ⟨w.heap.size,4,none⟩=some (.string val)∧w9.cell? ⟨w.heap.size,5,none⟩=some (.int .i64 N):=⟨z2,b0,b1,b2,b3,b4,b5⟩
         refine hKK.out _ _ k8 (fun hSS=>?_)
         clear hKK hSS
         try simp only [Act.put,List.getElem_toArray,List.getElem_cons_zero,List.getElem_cons_succ,List.setIfInBounds_toArray,List.set_cons_zero,List.set_cons_succ]
         refine wpAnyZ_take (i:=11) (v:=?v11) rfl (by kernel_rfl) (by kernel_rfl) (by kernel_rfl) (fun _ _ _ h=>h) (Or.inl ⟨by rfl,?h11⟩) (by assumption) ?r11
         case h11=>(intro W hSw;(try dsimp only at hSw);go_simp;all_goals (with_reducible rfl))
         try simp only [Act.put,List.getElem_toArray,List.getElem_cons_zero,List.getElem_cons_succ,List.setIfInBounds_toArray,List.set_cons_zero,List.set_cons_succ]
         refine wpAnyZ_take (i:=12) (v:=?v12) rfl (by kernel_rfl) (by kernel_rfl) (by kernel_rfl) (fun _ _ _ h=>h) (Or.inl ⟨by rfl,?h12⟩) (by assumption) ?r12
         case h12=>(intro W hSw;(try dsimp only at hSw);go_simp;all_goals (with_reducible rfl))
         try simp only [Act.put,List.getElem_toArray,List.getElem_cons_zero,List.getElem_cons_succ,List.setIfInBounds_toArray,List.set_cons_zero,List.set_cons_succ]
         refine wpAnyZ_ready (rs:=[13]) (by kernel_rfl) (by simp) ?_
         refine AllReadyZ.cons rfl (fun KK hKK=>?_) (AllReadyZ.nil)
         go_simp
         refine hKK.out _ _ k9 (fun hSS=>?_)
         clear hKK hSS
         try simp only [Act.put,List.getElem_toArray,List.getElem_cons_zero,List.getElem_cons_succ,List.setIfInBounds_toArray,List.set_cons_zero,List.set_cons_succ]
         refine wpAnyZ_ready (rs:=[14]) (by kernel_rfl) (by simp) ?_
         refine AllReadyZ.cons rfl (fun KK hKK=>?_) (AllReadyZ.nil)
         go_simp
         refine hKK.out _ _ k9 (fun hSS=>?_)
         clear hKK hSS
         try simp only [Act.put,List.getElem_toArray,List.getElem_cons_zero,List.getElem_cons_succ,List.setIfInBounds_toArray,List.set_cons_zero,List.set_cons_succ]
         refine wpAnyZ_take (i:=15) (v:=?v15) rfl (by kernel_rfl) (by kernel_rfl) (by kernel_rfl) (fun _ _ _ h=>h) (Or.inl ⟨by rfl,?h15⟩) (by assumption) ?r15
         case h15=>(intro W hSw;(try dsimp only at hSw);go_simp;all_goals (with_reducible rfl))
         try simp only [Act.put,List.getElem_toArray,List.getElem_cons_zero,List.getElem_cons_succ,List.setIfInBounds_toArray,List.set_cons_zero,List.set_cons_succ]
         refine wpAnyZ_ready (rs:=[16]) (by kernel_rfl) (by simp) ?_
         refine AllReadyZ.last rfl (of_decide_eq_true (by kernel_rfl)) (fun KK hKK=>?_)
         go_simp
         refine hKK.out _ _ ?_
         clear hKK
         try simp only [Act.put,List.getElem_toArray,List.getElem_cons_zero,List.getElem_cons_succ,List.setIfInBounds_toArray,List.set_cons_zero,List.set_cons_succ]
         refine wpAnyZ_done (by kernel_rfl) ?_ _
         have HI:Hid (LogIn ((w9.setCell ⟨P,1,none⟩ (.slice au nj cu)).setCell ⟨P,2,none⟩ (.slice a9 n9 c9)) P (fun k=>(F k∨w5.heap.size≤k)∧k < w9.heap.size) ⟨s.rep,j,s.ws ++ [⟨t,re,K,key,val,N⟩]⟩ (.slice au nj cu) (.slice a9 n9 c9)):=Lib.hid
           (HW8.out.log.local (s':=⟨s.rep,j,s.ws ++ [⟨t,re,K,key,val,N⟩]⟩) HG9.out HV9.out (ownsRow_but (((HO6.out.below HB8.out).mono (Nat.zero_le _))) ((But.refl (fun k=>Value.ownBlock (.slice aw n cw)=some k) w8).grown HG9.out (fun k e=>.inl e)) (fun k e e2=>by have:=(HO6.out.lt k e).1;have:=(HNP.out k e2).1;have:=HS5.out;omega)) HO9.out rfl (by simp) (m:=w5.heap.size) (fun k e=>(HO6.out.lt k e).1) (Nat.le_trans HW6S.out HB8.out.size))
         have HBU:Hid (But F w ((w9.setCell ⟨P,1,none⟩ (.slice au nj cu)).setCell ⟨P,2,none⟩ (.slice a9 n9 c9))):=Lib.hid ((((But.of_below HW8.out.bel).grown HG9.out (fun k e=>.inl (HW8.out.log.inW k e))).setCell (.inl HW8.out.log.inP) _).setCell (.inl HW8.out.log.inP) _)
         have HRR2:Hid (((w9.setCell ⟨P,1,none⟩ (.slice au nj cu)).setCell ⟨P,2,none⟩ (.slice a9 n9 c9)).heap[w.heap.size + 1]? = some (.cells #[.int .i64 0,.int .i64 0] 24 (0,0))):=Lib.hid ((heap_setCell_other _ _ _ _ (by show w.heap.size + 1≠P;omega)).trans ((heap_setCell_other _ _ _ _ (by show w.heap.size + 1≠P;omega)).trans HRR.out))
         have HRB2:Hid (((w9.setCell ⟨P,1,none⟩ (.slice au nj cu)).setCell ⟨P,2,none⟩ (.slice a9 n9 c9)).heap[w.heap.size]? = some (.cells #[.int .i64 t,.int .i64 re,.int .i64 K,.string key,.string val,.int .i64 N] 26 (0,0))):=Lib.hid ((heap_setCell_other _ _ _ _ (by show w.heap.size≠P;omega)).trans ((heap_setCell_other _ _ _ _ (by show w.heap.size≠P;omega)).trans HRB.out))
         have HFL:=Lib.hid HW8.out.fl
         obtain ⟨X,hX⟩:∃ X,X=(w9.setCell ⟨P,1,none⟩ (.slice au nj cu)).setCell ⟨P,2,none⟩ (.slice a9 n9 c9):=⟨_,rfl⟩
         rw [←hX] at HI HBU HRR2 HRB2 ⊢
         clear hX z1 z2 y1 y2 b0 b1 b2 b3 b4 b5 k0 k8 k9 r0 r1 g0 g1
         have b0:X.cell? ⟨w.heap.size,0,none⟩=some (.int .i64 t):=cell_of_row _ _ 0 _ _ _ HRB2.out
         have b1:X.cell? ⟨w.heap.size,1,none⟩=some (.int .i64 re):=cell_of_row _ _ 1 _ _ _ HRB2.out
         have r0:X.cell? ⟨w.heap.size + 1,0,none⟩=some (.int .i64 0):=cell_of_row _ _ 0 _ _ _ HRR2.out
         have r1:X.cell? ⟨w.heap.size + 1,1,none⟩=some (.int .i64 0):=cell_of_row _ _ 1 _ _ _ HRR2.out
         have g0:=Lib.frozen_of_heap HRR2.out 0
         have g1:=Lib.frozen_of_heap HRR2.out 1
         go_wp2
         have hR:=heap_setCell_same _ _ 1 _ _ (.int .i64 re) (heap_setCell_same _ _ 0 _ _ (.int .i64 t) HRR2.out)
         have hB1:But (fun k=>k=w.heap.size + 1) X ((X.setCell ⟨w.heap.size + 1,0,none⟩ (.int .i64 t)).setCell ⟨w.heap.size + 1,1,none⟩ (.int .i64 re)):=((But.refl (fun k=>k=w.heap.size + 1) X).setCell (.inl (show w.heap.size + 1=w.heap.size + 1 from rfl)) _).setCell (.inl (show w.heap.size + 1=w.heap.size + 1 from rfl)) _
         have hB2:But F w ((X.setCell ⟨w.heap.size + 1,0,none⟩ (.int .i64 t)).setCell ⟨w.heap.size + 1,1,none⟩ (.int .i64 re)):=(HBU.out.setCell (.inr (by simp)) _).setCell (.inr (by simp)) _
         obtain ⟨V,hV⟩:∃ V,V=(X.setCell ⟨w.heap.size + 1,0,none⟩ (.int .i64 t)).setCell ⟨w.heap.size + 1,1,none⟩ (.int .i64 re):=⟨_,rfl⟩
         rw [←hV] at hR hB1 hB2 ⊢
         clear hV
         have q0:=cell_of_row _ _ 0 _ _ _ hR
         have q1:=cell_of_row _ _ 1 _ _ _ hR
         refine bodyPost_ret (v:=.tuple #[.agg #[.int .i64 t,.int .i64 re],.nilIface]) (by simp [results,Tryz.results8,go_sem,q0,q1]) rfl ?_
         refine .inr ⟨HE.out,by rw [HTM.out,HRE.out],(fun k=>(F k∨w5.heap.size≤k)∧k < w9.heap.size),?_,?_,hB2⟩
         · intro k hk
           rcases hk.1 with hk | hk
           · exact .inl hk
           · exact .inr (by have:=HS5.out;omega)
         · have hS:lcS s ⟨T0,R0,K,key,val,N⟩=⟨s.rep,j,s.ws ++ [⟨t,re,K,key,val,N⟩]⟩:=by unfold lcS;rw [HJ1.out,HJ.out,HX.out]
           rw [hS]
           refine ⟨_,_,HI.out.but hB1 (fun k hk e=>?_)⟩
           have h1:=hk.1
           have h2:=HFL.out
           have h3:=HS5.out
           subst e
           rcases h1 with h1 | h1
           · have:=h2 _ h1;omega
           · omega
       · have HE:Hid (lcE s ⟨T0,R0,K,key,val,N⟩=e4):=Lib.hid (by rw [HJ0.out,HJ1.out,HJ.out])
         have H50:=Lib.hid h5
         rw [noV_e h5]
         clear h5
         go_wp2
         obtain ⟨hR,hbR⟩:=HW6.out.out (.int .i64 0) (.int .i64 0)
         obtain ⟨V,hV⟩:∃ V,V=(w6.setCell ⟨w.heap.size + 1,0,none⟩ (.int .i64 0)).setCell ⟨w.heap.size + 1,1,none⟩ (.int .i64 0):=⟨_,rfl⟩
         rw [←hV] at hR hbR ⊢
         clear hV
         have q0:=cell_of_row _ _ 0 _ _ _ hR
         have q1:=cell_of_row _ _ 1 _ _ _ hR
         refine bodyPost_ret (v:=.tuple #[.agg #[.int .i64 0,.int .i64 0],.iface 40 (.int .i64 (e4:Nat))]) (by simp [results,Tryz.results8,go_sem,q0,q1]) rfl ?_
         exact .inl (by rw [HE.out];exact ⟨H50.out,rfl,hbR⟩)
   · have HE:Hid (lcE s ⟨T0,R0,K,key,val,N⟩=e2):=Lib.hid (by rw [lcE_w H4.out (by rw [HW2.out];exact h2),HW2.out])
     have h20:e2≠0:=h2
     have HQ:=Lib.hid (errV_no h20)
     have H20:=Lib.hid h20
     clear h2 h20
     go_wp2_with (go_at_call 27;refine (wright_any t re K key val N _ hkk hvv).mono ?_;rintro r w5 ⟨rfl,hb5⟩;rw [HV2.out,HQ.out];have HW5:Hid (LC w w5 P F s vh (.slice aw n cw) t re K key val N):=Lib.hid (HW4.out.call hb5);have r0:=HW5.out.cr.1.1;have r1:=HW5.out.cr.1.2;have g0:=HW5.out.cr.2.1;have g1:=HW5.out.cr.2.2;clear hb5)
     obtain ⟨hR,hbR⟩:=HW5.out.out (.int .i64 0) (.int .i64 0)
     obtain ⟨V,hV⟩:∃ V,V=(w5.setCell ⟨w.heap.size + 1,0,none⟩ (.int .i64 0)).setCell ⟨w.heap.size + 1,1,none⟩ (.int .i64 0):=⟨_,rfl⟩
     rw [←hV] at hR hbR ⊢
     clear hV
     have q0:=cell_of_row _ _ 0 _ _ _ hR
     have q1:=cell_of_row _ _ 1 _ _ _ hR
     refine bodyPost_ret (v:=.tuple #[.agg #[.int .i64 0,.int .i64 0],.iface 40 (.int .i64 (e2:Nat))]) (by simp [results,Tryz.results8,go_sem,q0,q1]) rfl ?_
     exact .inl (by rw [HE.out];exact ⟨H20.out,rfl,hbR⟩)
end Go.Proofs.YtddbpnplbcjpgaaGreatDoor
