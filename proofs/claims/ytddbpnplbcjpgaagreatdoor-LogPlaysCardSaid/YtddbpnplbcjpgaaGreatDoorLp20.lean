import Derived.Test.YtddbpnplbcjpgaaGreatDoorLp19
namespace Go.Proofs.YtddbpnplbcjpgaaGreatDoor
open Go.RowKit
theorem wpList_append_entsX {w:World} {ops:Array Oper} {rest:List Oper} {o:Oper} {a:Act} {Q:Exit→Act→World→Prop} (hgd:o.guard=none) (s x:Operand)
   (ho:o.op=.call { callee:=.builtin .append,args:=#[s,x],argTypes:=#[27,27] })
   (base:Nat) (v:Value) (l:List Ent) (hs:a.eval s=v) (hown:ownsE w base v l)
   (ad:Addr) (c n:Nat) (hx:a.eval x=.slice (some ad) n c) (m:List Ent) (hn:n=m.length) (hcell:∀ j u,(entsC m)[j]? = some u→w.cell? (ad.add j)=some u)
   (hlen:l.length + m.length≤1000000) (hbase:base≤w.heap.size)
   (h:∀ v' w',ownsE w' base v' (l ++ m)→w.grownBy w' v.ownBlock→wpList Tryz.prog ops Q rest (a.put o.dst v') w'):wpList Tryz.prog ops Q (o :: rest) a w:=by
 subst hn
 obtain ⟨i0,hi,hz0,hz1,hz2⟩:=info_parts info_ent
 obtain ⟨v',w',hr,h1,h2,_⟩:=run_append_own_at (P:=Tryz.prog) w base 27 o.type 62 i0 (.agg #[.int .i64 0,.int .i64 0]) 2 16 Tryz.underlying27 hi hz0 hz1 hz2 rfl (by decide) v l.length (entsC l) hown ad m.length c (entsC m) (entsC_len m) hcell (fun u hu=>by obtain ⟨n,rfl⟩:=entsC_int _ _ hu;rfl) (by unfold maxLen;omega) (by omega) hbase
 refine Lib.wpList_append_run w hgd s x _ _ ho v (.slice (some ad) m.length c) hs hx v' w' hr (h v' w' ?_ h2)
 unfold ownsE
 rw [List.length_append,entsC_app]
 exact h1
theorem ownsE_none (w:World):ownsE (w.alloc (.cells #[] 62)) w.heap.size (.slice (some ⟨w.heap.size,0,none⟩) 0 0) [] :=
 ⟨rfl,.inr ⟨w.heap.size,0,#[],rfl,Nat.le_refl _,heap_alloc_new w _,Nat.le_refl _,Nat.zero_le _,rfl,rfl⟩⟩
set_option maxRecDepth 100000 in
set_option maxHeartbeats 4000000 in
theorem clone_at (ad:Addr) (c n:Nat) (l:List Ent) (w:World) (hn:n=l.length) (h6:n≤1000000) (hc:∀ j u,(entsC l)[j]? = some u→w.cell? (ad.add j)=some u) :
   Calls Tryz.prog 45 #[.slice (some ad) n c] w fun e w'=>∃ v',e=.returned v'∧ownsE w' w.heap.size v' l∧Below w.heap.size w w':=by
 have HC:=Lib.hid hc
 have HN:=Lib.hid hn
 clear hc hn
 have heq:∀ w:World,(binOp BinOp.eql 27 (.slice (some ad) n c) (.slice none 0 0)).run Tryz.prog w=.ok (.bool false) w:=fun w=>Go.Lib.run_eql_slice_nil w _ _ (some ad) n c 0 0 Tryz.underlying27
 go_enter Tryz.func45,Tryz.ntmps45
 go_wp2_with (at_builtin;refine wpList_append_entsX rfl _ _ rfl w.heap.size _ [] rfl (ownsE_none w) ad c n rfl l HN.out ?c1 ?c2 ?c3 ?_)
 case c1=>exact fun j u hj=>(World.cell?_alloc_lt w _ (ad.add j) (lt_of_cell (HC.out j u hj))).trans (HC.out j u hj)
 case c2=>have:=HN.out;simp;omega
 case c3=>simp
 intro v' w' ho hg
 have HO:=Lib.hid ho
 have HB:Hid (Below w.heap.size w w'):=Lib.hid (((Below.refl _ _).alloc (Nat.le_refl _) _).grown hg (by simp) (fun k hk=>by
   have e:w.heap.size=k:=by simpa [Value.ownBlock] using hk
   omega))
 clear ho hg
 go_wp2
 go_ret
 exact ⟨_,rfl,by simpa using HO.out,HB.out⟩
set_option maxRecDepth 100000 in
set_option maxHeartbeats 4000000 in
theorem clone_nilE (c:Nat) (w:World) :
   Calls Tryz.prog 45 #[.slice none 0 c] w fun e w'=>∃ v',e=.returned v'∧ownsE w' w.heap.size v' []∧Below w.heap.size w w':=by
 have heq:∀ w:World,(binOp BinOp.eql 27 (.slice none 0 c) (.slice none 0 0)).run Tryz.prog w=.ok (.bool true) w:=fun w=>Go.Lib.run_eql_slice_nil w _ _ none 0 c 0 0 Tryz.underlying27
 go_enter Tryz.func45,Tryz.ntmps45
 go_wp2
 go_ret
 exact ⟨_,rfl,ownsE_nil _ _,Below.refl _ _⟩
theorem clone_ents (v:Value) (l:List Ent) (w:World) (hv:IsEnts w v l) (h6:l.length≤1000000) :
   Calls Tryz.prog 45 #[v] w fun e w'=>∃ v',e=.returned v'∧ownsE w' w.heap.size v' l∧Below w.heap.size w w':=by
 rcases hv with ⟨a,c,rfl,rfl⟩ | ⟨b,off,c,rfl,h1,h2,h3⟩
 · cases a with
   | none=>exact clone_nilE c w
   | some ad=>exact clone_at ad c 0 [] w rfl (Nat.zero_le _) (fun j u hj=>by simp [entsC] at hj)
 · refine clone_at ⟨b,off,none⟩ c l.length l w rfl h6 (fun j u hj=>?_)
   have hadd:(⟨b,off,none⟩:Addr).add j=⟨b,off + j,none⟩:=by unfold Addr.add;split <;> simp_all
   rw [hadd];exact h3 j u hj
set_option maxRecDepth 100000 in
theorem lnew_any (r:Int) (w:World) (hr:0≤r∧r≤200) :
   Calls Tryz.prog 5 #[.int .i64 r] w fun e w'=>e=.returned (.tuple #[.pointer (some ⟨w.heap.size,0,none⟩),.nilIface])∧LogAt w' w.heap.size (fun k=>k=w.heap.size) ⟨r,[],[]⟩∧Below w.heap.size w w':=by
 obtain ⟨h1,h2⟩:=hr
 have b1:decide (r < 0)=false:=by simp;omega
 have b2:decide (200 < r)=false:=by simp;omega
 go_enter Tryz.func5,Tryz.ntmps5
 go_wp2
 go_ret2
 exact ⟨rfl,⟨_,_,heap_alloc_new _ _,ownsE_nil _ _,ownsW_nil _ _,rfl,fun k e=>(by cases e),fun k e=>(by cases e),fun k (e:k=_)=>(by rw [e];simp),fun _=>rfl⟩,(Below.refl _ _).alloc (Nat.le_refl _) _⟩
set_option maxRecDepth 100000 in
theorem lnew_bad (r:Int) (w:World) (hr:¬ (0≤r∧r≤200)) :
   Calls Tryz.prog 5 #[.int .i64 r] w fun e w'=>e=.returned (.tuple #[.pointer none,.iface 40 (.int .i64 2)])∧w=w':=by
 by_cases h1:r < 0
 · have b1:decide (r < 0)=true:=by simpa using h1
   go_enter Tryz.func5,Tryz.ntmps5
   go_wp2
   go_ret2
   exact ⟨rfl,rfl⟩
 · have b1:decide (r < 0)=false:=by simpa using h1
   have b2:decide (200 < r)=true:=by simp;omega
   go_enter Tryz.func5,Tryz.ntmps5
   go_wp2
   go_ret2
   exact ⟨rfl,rfl⟩
theorem maxT_snoc {l:List Ent} {k:Nat} {e:Ent} (h:l[k]? = some e):maxT (l.take (k + 1))=max (maxT (l.take k)) e.time:=by
 unfold maxT
 rw [List.take_add_one,h]
 show (l.take k ++ [e]).foldl _ _=_
 rw [List.foldl_append]
 rfl
theorem maxT_bd {l:List Ent} {a:Int} (h:okV a l):0≤maxT l∧maxT l≤1099511627776:=by
 refine ⟨maxT_pos l,?_⟩
 have:∀ (m:List Ent) (x:Int),x≤1099511627776→(∀ e∈m,e.time≤1099511627776)→m.foldl (fun a e=>max a e.time) x≤1099511627776:=by
   intro m
   induction m with
   | nil=>intro x hx _;exact hx
   | cons d r ih =>
     intro x hx hm
     rw [List.foldl_cons]
     exact ih _ (by have:=hm d List.mem_cons_self;omega) (fun e he=>hm e (List.mem_cons_of_mem _ he))
 exact this l 0 (by omega) (fun e he=>(okV_mem h e he).2.2.2.1)
set_option maxRecDepth 100000 in
set_option maxHeartbeats 4000000 in
theorem lnext_any (P:Nat) (s:LogS) (F:Nat→Prop) (vh vw:Value) (w:World) (h:LogIn w P F s vh vw) (ok:LogOk s) :
   Calls Tryz.prog 26 #[.pointer (some ⟨P,0,none⟩)] w fun e w'=>e=.returned (.int .i64 (maxT s.hv + 1))∧Below w.heap.size w w':=by
 have p1:=h.c1
 obtain ⟨a,c,rfl,hf⟩:=h.ents.is.form
 have HF:=Lib.hid hf
 obtain ⟨n,hn⟩:∃ n,n=s.hv.length:=⟨_,rfl⟩
 have hn2:n≤16:=by rw [hn];exact ok.hv.1
 rw [←hn] at p1
 have HN:=Lib.hid hn
 have HT:Hid (∀ k,maxT (s.hv.take k)≤1099511627776):=Lib.hid (fun k=>by
   have:=(maxT_from s.hv 0).2
   have h2:∀ e∈s.hv.take k,e.time≤maxT s.hv:=fun e he=>this e (List.mem_of_mem_take he)
   have h3:=(maxT_bd ok.hv.2)
   have:∀ (m:List Ent) (x:Int),x≤maxT s.hv→(∀ e∈m,e.time≤maxT s.hv)→m.foldl (fun a e=>max a e.time) x≤maxT s.hv:=by
     intro m
     induction m with
     | nil=>intro x hx _;exact hx
     | cons d r ih =>
       intro x hx hm
       rw [List.foldl_cons]
       exact ih _ (by have:=hm d List.mem_cons_self;omega) (fun e he=>hm e (List.mem_cons_of_mem _ he))
   have h4:=this (s.hv.take k) 0 h3.1 h2
   unfold maxT at h4 h3 ⊢
   omega)
 have HLE:=Lib.hid (maxT_bd ok.hv.2)
 obtain ⟨hv,hhv⟩:∃ hv,hv=s.hv:=⟨_,rfl⟩
 rw [←hhv] at HN HF HT HLE ⊢
 clear h ok hf hn hhv
 go_enter Tryz.func26,Tryz.ntmps26
 go_wp2
 go_loopw [3,11] (fun m i wr=>∃ k:Nat,k≤n∧i=.int .i64 k∧m=.int .i64 (maxT (hv.take k))∧Below w.heap.size w wr) (fun _ i _=>n - (intOf i).toNat)
 case atStart=>exact ⟨0,by omega,rfl,rfl,Below.refl _ _⟩
 case round =>
   obtain ⟨k,hk,rfl,rfl,hb⟩:=hrel
   have HB:=Lib.hid hb
   have HSR:=Lib.hid hb.size
   clear hb
   by_cases hlt:k < n
   · have b1:decide ((k:Int) < (n:Int))=true:=by simpa using hlt
     obtain ⟨x, hx⟩ : ∃ x, hv[k]? = some x := ⟨hv[k]'(by rw [← HN.out]; exact hlt), List.getElem?_eq_getElem _⟩
     obtain ⟨b,off,rfl,hbl,c0,c1⟩:=HF.out k x hx
     have HS:=Lib.hid (maxT_snoc hx)
     obtain ⟨r,t⟩:=x
     simp only at c0 c1 HS
     have e0:=(HB.out.cell (p:=⟨b,off + k * 2,none⟩) hbl).trans c0
     have e1:=(HB.out.cell (p:=⟨b,off + k * 2 + 1,none⟩) hbl).trans c1
     obtain ⟨y,hy⟩:∃ y,y=maxT (hv.take k):=⟨_,rfl⟩
     rw [←hy] at HS ⊢
     obtain ⟨z,hz⟩:∃ z,z=max y t:=⟨_,rfl⟩
     have hz2:max y t=z:=hz.symm
     have hz3:(if y < t then t else y)=z:=by rw [hz];split <;> omega
     have HZ:Hid (maxT (hv.take (k + 1))=z):=Lib.hid (by rw [HS.out,hz])
     clear hx c0 c1 hy hz HS
     go_wp2
     go_roundw
     · exact ⟨k + 1,by omega,by simp,by rw [HZ.out],HB.out.alloc HSR.out _⟩
     · simp [intOf];omega
   · have b1:decide ((k:Int) < (n:Int))=false:=by simp;omega
     obtain rfl:k=n:=by omega
     have HA:Hid (hv.take k=hv):=Lib.hid (List.take_of_length_le (by rw [HN.out];exact Nat.le_refl _))
     rw [HA.out]
     obtain ⟨y,hy⟩:∃ y,y=maxT hv:=⟨_,rfl⟩
     rw [←hy] at HLE ⊢
     have hy1:0≤y:=HLE.out.1
     have hy2:y≤1099511627776:=HLE.out.2
     have HY:=Lib.hid hy
     clear hy
     go_wp2
     go_ret
     exact ⟨by rw [←HY.out];rfl,HB.out⟩
theorem entBlk_is {w:World} {B:Nat} {t:Ent} (h:entBlk w B t):IsEnts w (.slice (some ⟨B,0,none⟩) 1 1) [t]:=by
 refine .inr ⟨B,0,1,rfl,⟨Nat.zero_lt_one,Nat.le_refl 1⟩,(Array.getElem?_eq_some_iff.1 h).1,fun j u hj=>?_⟩
 rw [Nat.zero_add,cell_of_row _ _ j _ _ (0,0) h]
 simpa [entsC,entC] using hj
set_option maxRecDepth 100000 in
set_option maxHeartbeats 4000000 in
theorem land_any (v:Value) (l:List Ent) (T R:Int) (w:World) (hv:IsEnts w v l) (hl:l.length≤9223372036854775807) (hg:errT w) (e:Nat) (j:List Ent) (hj:joinR l [⟨R,T⟩]=(e,j)) :
   Calls Tryz.prog 28 #[v,.agg #[.int .i64 T,.int .i64 R]] w fun r w'=>∃ u,r=.returned (.tuple #[u,noV e])∧ownsE w' w.heap.size u j∧Below w.heap.size w w':=by
 obtain ⟨a,c,rfl,_⟩:=hv.form
 have HV:=Lib.hid hv
 have HG:=Lib.hid hg
 have HJ:=Lib.hid hj
 obtain ⟨n,hn⟩:∃ n,n=l.length:=⟨_,rfl⟩
 rw [←hn] at HV ⊢
 have HL:=Lib.hid hl
 clear hv hg hj hn hl
 go_enter Tryz.func28,Tryz.ntmps28
 go_wp2_with fail
 refine (vjoin_any _ _ l [⟨R,T⟩] _ ((HV.out.alloc _).alloc _) (entBlk_is (t:=⟨R,T⟩) (by have:=entBlk_new (w.alloc (.cells #[.int .i64 T,.int .i64 R] 24)) R T;rwa [World.size_alloc] at this)) HL.out (by simp) ((HG.out.alloc _).alloc _)).mono ?_
 rintro r w2 ⟨u,rfl,ho,hb⟩
 rw [HJ.out] at ho ⊢
 have HO:=Lib.hid ho
 have HB:=Lib.hid hb
 clear ho hb
 go_wp2
 go_ret2
 exact ⟨_,rfl,ownsE.mono HO.out (by simp;omega),((((Below.refl _ _).alloc (Nat.le_refl _) _).alloc (by simp) _).trans (HB.out.mono (by simp;omega)))⟩
set_option maxRecDepth 100000 in
theorem lhave_any (P:Nat) (s:LogS) (F:Nat→Prop) (w:World) (h:LogAt w P F s) (ok:LogOk s) :
   Calls Tryz.prog 16 #[.pointer (some ⟨P,0,none⟩)] w fun e w'=>∃ u,e=.returned u∧ownsE w' w.heap.size u s.hv∧Below w.heap.size w w':=by
 obtain ⟨vh,vw,h⟩:=h
 have p1:=h.c1
 have HI:=Lib.hid h.ents.is
 have HL:Hid (s.hv.length≤1000000):=Lib.hid (by have:=ok.hv.1;omega)
 clear h ok
 go_enter Tryz.func16,Tryz.ntmps16
 go_wp2_with (go_at_call 45;refine (clone_ents vh s.hv _ HI.out HL.out).mono ?_;rintro r w2 ⟨u,rfl,ho,hb⟩;have HO:=Lib.hid ho;have HB:=Lib.hid hb;clear ho hb)
 go_ret
 exact ⟨_,rfl,HO.out,HB.out⟩
theorem LogOk.size {s:LogS} (ok:LogOk s) {x:Wr} (h:x∈s.ws):x.key.size≤140737488351232∧x.value.size≤140737488351232:=by
 have h2:=wriE_good (show wriE x.time x.rep x.kind x.key x.value x.n=0 from (ok.mem x h).1)
 omega
set_option maxRecDepth 100000 in
theorem lwrites_any (P:Nat) (s:LogS) (F:Nat→Prop) (w:World) (h:LogAt w P F s) (ok:LogOk s) :
   Calls Tryz.prog 18 #[.pointer (some ⟨P,0,none⟩)] w fun e w'=>∃ u,e=.returned u∧ownsW w' w.heap.size u s.ws∧Below w.heap.size w w':=by
 obtain ⟨vh,vw,h⟩:=h
 have p2:=h.c2
 have HI:=Lib.hid h.ows.is
 have HL:Hid (s.ws.length≤100000):=Lib.hid (by have:=ok.len;omega)
 have HS:Hid (∀ x∈s.ws,x.key.size≤140737488351232∧x.value.size≤140737488351232):=Lib.hid (fun x hx=>ok.size hx)
 clear h ok
 go_enter Tryz.func18,Tryz.ntmps18
 go_wp2_with (go_at_call 46;refine (allapart_any vw s.ws _ HI.out HL.out HS.out).mono ?_;rintro r w2 ⟨u,rfl,ho,hb,_⟩;have HO:=Lib.hid ho;have HB:=Lib.hid hb;clear ho hb)
 go_ret
 exact ⟨_,rfl,HO.out,HB.out⟩
end Go.Proofs.YtddbpnplbcjpgaaGreatDoor
namespace Go.Proofs.YtddbpnplbcjpgaaGreatDoor
open Go.RowKit
theorem idxB_0 (x y:Value) (w:World):(Instr.index 131 (.agg #[x,y]) (.int .i64 0)).run Tryz.prog w=.ok x w:=by kernel_rfl
theorem idxB_1 (x y:Value) (w:World):(Instr.index 131 (.agg #[x,y]) (.int .i64 1)).run Tryz.prog w=.ok y w:=by kernel_rfl
theorem bcov_as (va vb:Value) (a b:List Ent) (x:Bool) (w:World) (ha:IsEnts w va a) (hb:IsEnts w vb b) (hla:a.length≤9223372036854775807) (hlb:b.length≤9223372036854775807) (hx:covB a b=x) :
   Calls Tryz.prog 36 #[va,vb] w fun r w'=>r=.returned (.bool x)∧Below w.heap.size w w':=by
 subst hx;exact vcov_any va vb a b w ha hb hla hlb
set_option maxRecDepth 100000 in
set_option maxHeartbeats 4000000 in
theorem bbounds_any (vf vh vw:Value) (f h:List Ent) (l:List Wr) (w:World) (hf:IsEnts w vf f) (hh:IsEnts w vh h) (hv:IsWrs w vw l) (hlf:f.length≤9223372036854775807) (hlh:h.length≤9223372036854775807) (hg:errT w) :
   Calls Tryz.prog 68 #[.agg #[vf,vh,vw]] w fun r w'=>r=.returned (errV (bbE f h))∧Below w.heap.size w w':=by
 have HF:=Lib.hid hf
 have HH:=Lib.hid hh
 have HG:=Lib.hid hg
 have HLF:=Lib.hid hlf
 have HLH:=Lib.hid hlh
 obtain ⟨af,cf,rfl,_⟩:=hf.form
 obtain ⟨ah,ch,rfl,_⟩:=hh.form
 obtain ⟨aw,cw,rfl,_⟩:=hv.form
 obtain ⟨nf,hnf⟩:∃ n,n=f.length:=⟨_,rfl⟩
 obtain ⟨nh,hnh⟩:∃ n,n=h.length:=⟨_,rfl⟩
 obtain ⟨n,hn⟩:∃ n,n=l.length:=⟨_,rfl⟩
 rw [←hnf] at HF ⊢
 rw [←hnh] at HH ⊢
 rw [←hn]
 have HA:=Lib.hid (batAt_new w (.slice af nf cf) (.slice ah nh ch) (.slice aw n cw) 30)
 have HW0:Hid (Below w.heap.size w (w.alloc (.cells #[.slice af nf cf,.slice ah nh ch,.slice aw n cw] 30))):=Lib.hid ((Below.refl _ _).alloc (Nat.le_refl _) _)
 have HZ:Hid (w.heap.size < (w.alloc (.cells #[.slice af nf cf,.slice ah nh ch,.slice aw n cw] 30)).heap.size):=Lib.hid (by simp)
 have i0:=idxB_0
 have i1:=idxB_1
 clear hf hh hv hg hlf hlh hnf hnh hn
 go_enter Tryz.func68,Tryz.ntmps68
 go_wp2
 generalize w.alloc (.cells #[.slice af nf cf,.slice ah nh ch,.slice aw n cw] 30)=W at HA HW0 HZ ⊢
 have HE:Hid (∀ w',Below W.heap.size W w'→Below w.heap.size w w'):=Lib.hid (fun w' hx=>HW0.out.trans (hx.mono HW0.out.size))
 go_loopw [11] (fun i wr=>∃ k:Nat,k≤2∧i=.int .i64 k∧(k=0∨(k=1∧(vrightF f).1=0)∨(k=2∧(vrightF f).1=0∧(vrightF h).1=0))∧Below W.heap.size W wr) (fun i _=>2 - (intOf i).toNat)
 case atStart=>exact ⟨0,by omega,rfl,.inl rfl,Below.refl _ _⟩
 case round =>
   obtain ⟨k,hk,rfl,hj,hbel⟩:=hrel
   have HB:=Lib.hid hbel
   clear hbel
   rcases hj with rfl | ⟨rfl,h1⟩ | ⟨rfl,h1,h2⟩
   · by_cases h1:(vrightF f).1=0
     · have H1:=Lib.hid h1
       clear h1
       go_wp2_with fail
       refine (vright_any _ f _ (HF.out.below (HE.out _ HB.out)) HLF.out).mono ?_
       rintro r w1 ⟨err,rfl,hat,hb1⟩
       obtain rfl:=hat.nil H1.out
       have HB1:Hid (Below W.heap.size W w1):=HB.out.trans (hb1.mono HB.out.size)
       clear hat hb1
       go_wp2
       go_roundw
       case rel=>exact ⟨1,by omega,by go_num,.inr (.inl ⟨rfl,H1.out⟩),HB1.out⟩
       case measure=>simp [intOf]
     · have H1:=Lib.hid h1
       have HR:Hid (bbE f h=(vrightF f).1):=Lib.hid (by unfold bbE;rw [if_pos h1])
       have HQ:=Lib.hid (errV_no h1)
       clear h1
       go_wp2_with fail
       refine (vright_any _ f _ (HF.out.below (HE.out _ HB.out)) HLF.out).mono ?_
       rintro r w1 ⟨err,rfl,hat,hb1⟩
       have HER:=Lib.hid (hat.isErr H1.out)
       obtain ⟨t,u,rfl⟩:=hat.iface H1.out
       have HB1:Hid (Below W.heap.size W w1):=HB.out.trans (hb1.mono HB.out.size)
       clear hat hb1
       go_wp2_with fail
       refine (tell_err _ _ _ (HG.out.below (HE.out _ HB1.out)) HER.out).mono ?_
       rintro r w2 ⟨rfl,hb2⟩
       have HB2:Hid (Below W.heap.size W w2):=HB1.out.trans (hb2.mono HB1.out.size)
       clear hb2
       go_wp2
       go_ret
       exact ⟨by rw [HR.out,HQ.out];rfl,HE.out _ HB2.out⟩
   · by_cases h2:(vrightF h).1=0
     · have H2:=Lib.hid h2
       have H1:=Lib.hid h1
       clear h2 h1
       go_wp2_with fail
       refine (vright_any _ h _ (HH.out.below (HE.out _ HB.out)) HLH.out).mono ?_
       rintro r w1 ⟨err,rfl,hat,hb1⟩
       obtain rfl:=hat.nil H2.out
       have HB1:Hid (Below W.heap.size W w1):=HB.out.trans (hb1.mono HB.out.size)
       clear hat hb1
       go_wp2
       go_roundw
       case rel=>exact ⟨2,by omega,by go_num,.inr (.inr ⟨rfl,H1.out,H2.out⟩),HB1.out⟩
       case measure=>simp [intOf]
     · have H2:=Lib.hid h2
       have HR:Hid (bbE f h=(vrightF h).1):=Lib.hid (by unfold bbE;rw [if_neg (by simpa using h1),if_pos h2])
       have HQ:=Lib.hid (errV_no h2)
       clear h2 h1
       go_wp2_with fail
       refine (vright_any _ h _ (HH.out.below (HE.out _ HB.out)) HLH.out).mono ?_
       rintro r w1 ⟨err,rfl,hat,hb1⟩
       have HER:=Lib.hid (hat.isErr H2.out)
       obtain ⟨t,u,rfl⟩:=hat.iface H2.out
       have HB1:Hid (Below W.heap.size W w1):=HB.out.trans (hb1.mono HB.out.size)
       clear hat hb1
       go_wp2_with fail
       refine (tell_err _ _ _ (HG.out.below (HE.out _ HB1.out)) HER.out).mono ?_
       rintro r w2 ⟨rfl,hb2⟩
       have HB2:Hid (Below W.heap.size W w2):=HB1.out.trans (hb2.mono HB1.out.size)
       clear hb2
       go_wp2
       go_ret
       exact ⟨by rw [HR.out,HQ.out];rfl,HE.out _ HB2.out⟩
   · obtain ⟨c,hc⟩:∃ c,covB h f=c:=⟨_,rfl⟩
     have HC:=Lib.hid hc
     have HR:Hid (bbE f h=if c=false then 13 else 0):=Lib.hid (by unfold bbE;rw [if_neg (by simpa using h1),if_neg (by simpa using h2),hc])
     obtain ⟨d0,d1,d2⟩:=HA.out.below HB.out HZ.out
     clear h1 h2 hc
     go_wp2_with fail
     refine (bcov_as _ _ h f c _ (HH.out.below (HE.out _ HB.out)) (HF.out.below (HE.out _ HB.out)) HLH.out HLF.out HC.out).mono ?_
     rintro r w1 ⟨rfl,hb1⟩
     have HB1:Hid (Below W.heap.size W w1):=HB.out.trans (hb1.mono HB.out.size)
     clear hb1 d0 d1 d2
     cases c with
     | true =>
       go_wp2
       go_ret
       exact ⟨by rw [HR.out];rfl,HE.out _ HB1.out⟩
     | false =>
       go_wp2
       go_ret
       exact ⟨by rw [HR.out];rfl,HE.out _ HB1.out⟩
theorem bbounds_as (vf vh vw:Value) (f h:List Ent) (l:List Wr) (e:Nat) (w:World) (hf:IsEnts w vf f) (hh:IsEnts w vh h) (hv:IsWrs w vw l) (hlf:f.length≤9223372036854775807) (hlh:h.length≤9223372036854775807) (hg:errT w) (he:bbE f h=e) :
   Calls Tryz.prog 68 #[.agg #[vf,vh,vw]] w fun r w'=>r=.returned (errV e)∧Below w.heap.size w w':=by
 subst he;exact bbounds_any vf vh vw f h l w hf hh hv hlf hlh hg
set_option maxRecDepth 100000 in
set_option maxHeartbeats 4000000 in
theorem bright_any (vf vh vw:Value) (f h:List Ent) (l:List Wr) (w:World) (hf:IsEnts w vf f) (hh:IsEnts w vh h) (hv:IsWrs w vw l) (hlf:f.length≤9223372036854775807) (hlh:h.length≤9223372036854775807) (hok:∀ t∈l,WrOk t) (hg:errT w) :
   Calls Tryz.prog 35 #[.agg #[vf,vh,vw]] w (VRightIs w (batF f h l)):=by
 have HF:=Lib.hid hf
 have HH:=Lib.hid hh
 have HV:=Lib.hid hv
 have HG:=Lib.hid hg
 have HLF:=Lib.hid hlf
 have HLH:=Lib.hid hlh
 have HOK:=Lib.hid hok
 obtain ⟨af,cf,rfl,_⟩:=hf.form
 obtain ⟨ah,ch,rfl,_⟩:=hh.form
 obtain ⟨aw,cw,rfl,_⟩:=hv.form
 obtain ⟨nf,hnf⟩:∃ n,n=f.length:=⟨_,rfl⟩
 obtain ⟨nh,hnh⟩:∃ n,n=h.length:=⟨_,rfl⟩
 obtain ⟨n,hn⟩:∃ n,n=l.length:=⟨_,rfl⟩
 rw [←hnf] at HF ⊢
 rw [←hnh] at HH ⊢
 rw [←hn] at HV ⊢
 have HN:=Lib.hid hn
 have HA:=Lib.hid (batAt_new w (.slice af nf cf) (.slice ah nh ch) (.slice aw n cw) 30)
 have HW0:Hid (Below w.heap.size w (w.alloc (.cells #[.slice af nf cf,.slice ah nh ch,.slice aw n cw] 30))):=Lib.hid ((Below.refl _ _).alloc (Nat.le_refl _) _)
 have HZ:Hid (w.heap.size < (w.alloc (.cells #[.slice af nf cf,.slice ah nh ch,.slice aw n cw] 30)).heap.size):=Lib.hid (by simp)
 obtain ⟨eb,heb⟩:∃ e,bbE f h=e:=⟨_,rfl⟩
 have HEB:=Lib.hid heb
 clear hf hh hv hg hlf hlh hnf hnh hn hok heb
 go_enter Tryz.func35,Tryz.ntmps35
 go_wp2_with fail
 generalize w.alloc (.cells #[.slice af nf cf,.slice ah nh ch,.slice aw n cw] 30)=W at HA HW0 HZ ⊢
 have HE:Hid (∀ w',Below W.heap.size W w'→Below w.heap.size w w'):=Lib.hid (fun w' hx=>HW0.out.trans (hx.mono HW0.out.size))
 refine (bbounds_as _ _ _ f h l eb _ (HF.out.below HW0.out) (HH.out.below HW0.out) (HV.out.below HW0.out) HLF.out HLH.out (HG.out.below HW0.out) HEB.out).mono ?_
 rintro r w1 ⟨rfl,hb1⟩
 have HB1:Hid (Below W.heap.size W w1):=Lib.hid hb1
 clear hb1
 by_cases h0:eb=0
 · subst h0
   rw [errV_ok]
   obtain ⟨d0,d1,d2⟩:=HA.out.below HB1.out HZ.out
   by_cases h6:60 < n
   · have HR:=Lib.hid (batF_many HEB.out (show 60 < l.length by rw [←HN.out];exact h6))
     have h6':(60:Int) < (n:Int):=by omega
     go_wp2
     go_ret
     rw [HR.out]
     exact ⟨_,rfl,.inr ⟨by decide,rfl,rfl⟩,HE.out _ HB1.out⟩
   · have HR:=Lib.hid (batF_rest (ws:=l) HEB.out (show ¬ 60 < l.length by rw [←HN.out];exact h6))
     have h6':¬ (60:Int) < (n:Int):=by omega
     have hn6:n≤60:=by omega
     clear h6
     go_wp2
     clear d0 d1 d2
     go_loopw [19] (fun i wr=>∃ (k:Nat) (p:Option Wr),k≤n∧i=.int .i64 k∧((k=0∧p=none)∨∃ j q,k=j + 1∧l[j]? = some q∧p=some q)∧bwr f h l 0 none=bwr f h (l.drop k) k p∧Below W.heap.size W wr) (fun i _=>n - (intOf i).toNat)
     case atStart=>exact ⟨0,none,by omega,rfl,.inl ⟨rfl,rfl⟩,rfl,HB1.out⟩
     case round =>
       obtain ⟨k,p,hk,rfl,hla,heq,hbel⟩:=hrel
       have HEQ:=Lib.hid heq
       have HLA:=Lib.hid hla
       have HB:=Lib.hid hbel
       clear heq hbel hla
       by_cases hlt:k < n
       · have hkl:k < l.length:=by have:=HN.out;omega
         obtain ⟨t,ht⟩:∃ t,l[k]? = some t:=⟨l[k],List.getElem?_eq_getElem hkl⟩
         have hd:l.drop k=t :: l.drop (k + 1):=by
           rw [List.drop_eq_getElem_cons hkl];congr 1
           rw [List.getElem?_eq_getElem hkl] at ht;exact Option.some.inj ht
         have HD:=Lib.hid hd
         have HT:=Lib.hid ht
         obtain ⟨e,he⟩:∃ e,bwE f h p t=e:=⟨_,rfl⟩
         have HEE:=Lib.hid he
         obtain ⟨d0,d1,d2⟩:=HA.out.below HB.out HZ.out
         clear ht hkl hd he
         go_wp2_with fail
         refine (bwrong_any _ _ _ f h l k t p e _ (HF.out.below (HE.out _ HB.out)) (HH.out.below (HE.out _ HB.out)) (HV.out.below (HE.out _ HB.out)) HLF.out HLH.out (by have:=HN.out;omega) HT.out HLA.out HOK.out (HG.out.below (HE.out _ HB.out)) HEE.out).mono ?_
         rintro r w2 ⟨rfl,hb2⟩
         have HB2:Hid (Below W.heap.size W w2):=HB.out.trans (hb2.mono HB.out.size)
         clear hb2 d0 d1 d2
         by_cases hz:e=0
         · subst hz
           have HN2:Hid (bwr f h l 0 none=bwr f h (l.drop (k + 1)) (k + 1) (some t)):=Lib.hid (show bwr f h l 0 none=bwr f h (l.drop (k + 1)) (k + 1) (some t) by rw [HEQ.out,HD.out,bwr_good HEE.out])
           go_wp2
           go_roundw
           case rel=>exact ⟨k + 1,some t,by omega,by go_num,.inr ⟨k,t,rfl,HT.out,rfl⟩,HN2.out,HB2.out⟩
           case measure=>simp [intOf];omega
         · have HN2:Hid (bwr f h l 0 none=(e,(k:Int))):=Lib.hid (show bwr f h l 0 none=(e,(k:Int)) by rw [HEQ.out,HD.out,bwr_bad HEE.out hz])
           have hne:((e:Int) != 0)=true:=by simp;omega
           have H0:=Lib.hid hz
           have hz2:=HB2.out.size
           clear hz
           go_wp2
           go_ret
           rw [HR.out,HN2.out]
           exact ⟨_,rfl,.inl (atIs.new w2 e k H0.out),HE.out _ (HB2.out.alloc hz2 _)⟩
       · have HN2:Hid (bwr f h l 0 none=(0,-1)):=Lib.hid (show bwr f h l 0 none=(0,-1) by rw [HEQ.out,List.drop_eq_nil_of_le (by have:=HN.out;omega)];rfl)
         go_wp2
         go_ret
         exact ⟨_,rfl,.inl (.inl ⟨HR.out.trans HN2.out,rfl⟩),HE.out _ HB.out⟩
 · have HR:=Lib.hid (batF_bb (ws:=l) HEB.out h0)
   have H0:=Lib.hid h0
   rw [errV_no h0]
   clear h0
   go_wp2
   go_ret
   rw [HR.out]
   exact ⟨_,rfl,.inr ⟨H0.out,rfl,rfl⟩,HE.out _ HB1.out⟩
end Go.Proofs.YtddbpnplbcjpgaaGreatDoor
namespace Go.Proofs.YtddbpnplbcjpgaaGreatDoor
open Go.RowKit
theorem rof_as (v:Value) (l:List Ent) (x y:Int) (w:World) (hv:IsEnts w v l) (hl:l.length≤9223372036854775807) (h:ofF l x=y) :
   Calls Tryz.prog 40 #[v,.int .i64 x] w fun r w'=>r=.returned (.int .i64 y)∧w=w':=by
 subst h;exact rof_any v l x w hv hl
theorem rof_q (v:Value) (l:List Ent) (x y:Int) (w:World) (n:Nat) (hv:IsEnts w v l) (hl:l.length≤9223372036854775807) (h:ofF l x=y) :
   Calls Tryz.prog 40 #[v,.int .i64 x] (w.drewN n) fun r w'=>r=.returned (.int .i64 y)∧∃ m,w'=w.drewN m :=
 (rof_as v l x y (w.drewN n) (hv.drewN n) hl h).mono fun _ _ ⟨h1,h2⟩=>⟨h1,n,h2.symm⟩
theorem rvright_as (v:Value) (l:List Ent) (e:Nat) (pl:Int) (w:World) (hv:IsEnts w v l) (hl:l.length≤9223372036854775807) (h:vrightF l=(e,pl)) :
   Calls Tryz.prog 39 #[v] w fun r w'=>r=.returned (.agg #[.int .i64 (e:Int),.int .i64 pl])∧Below w.heap.size w w' :=
 (rvright_any v l w hv hl).mono fun r w' ⟨h1,h2⟩=>⟨by rw [h1,h];rfl,h2⟩
theorem covA_dropR {a b:List Ent} {k:Nat} {t:Ent} (h:b[k]? = some t):covA a (b.drop k)=(decide (t.time≤ofF a t.rep) && covA a (b.drop (k + 1))):=by
 obtain ⟨hk,ht⟩:=List.getElem?_eq_some_iff.1 h
 rw [List.drop_eq_getElem_cons hk,ht];rfl
set_option maxRecDepth 100000 in
set_option maxHeartbeats 4000000 in
theorem rcov_any (va vb:Value) (a b:List Ent) (w:World) (ha:IsEnts w va a) (hb:IsEnts w vb b) (hla:a.length≤9223372036854775807) (hlb:b.length≤9223372036854775807) :
   Calls Tryz.prog 32 #[va,vb] w fun r w'=>r=.returned (.bool (covB a b))∧Below w.heap.size w w':=by
 have HVA:=Lib.hid ha
 have HVB:=Lib.hid hb
 have HLA:=Lib.hid hla
 have HLB:Hid (b.length≤9223372036854775807):=Lib.hid hlb
 obtain ⟨aa,ca,rfl,_⟩:=ha.form
 obtain ⟨ab,cb,rfl,fb⟩:=hb.form
 have FB:=Lib.hid fb
 obtain ⟨na,hna⟩:∃ n,n=a.length:=⟨_,rfl⟩
 obtain ⟨nb,hnb⟩:∃ n,n=b.length:=⟨_,rfl⟩
 have HNB:=Lib.hid hnb
 rw [←hna] at HVA ⊢
 rw [←hnb] at HVB hlb ⊢
 clear ha hb hla fb hna hnb
 obtain ⟨ea,pa,hra⟩:∃ e pl,vrightF a=(e,pl):=⟨_,_,rfl⟩
 obtain ⟨eb,pb,hrb⟩:∃ e pl,vrightF b=(e,pl):=⟨_,_,rfl⟩
 have HRA:=Lib.hid hra
 have HRB:=Lib.hid hrb
 have HC:Hid (covB a b=(decide (ea=0) && decide (eb=0) && covA a b)):=Lib.hid (show covB a b=(decide (ea=0) && decide (eb=0) && covA a b) by unfold covB;rw [hra,hrb])
 clear hra hrb
 by_cases h1:ea=0
 · have hne:((ea:Int) == 0)=true:=by simp;exact h1
   by_cases h2:eb=0
   · have hne2:((eb:Int) == 0)=true:=by simp;exact h2
     have HC2:Hid (covB a b=(true && covA a b)):=Lib.hid (show covB a b=(true && covA a b) by rw [HC.out,decide_eq_true h1,decide_eq_true h2];rfl)
     clear h1 h2 HC
     go_enter Tryz.func32,Tryz.ntmps32
     go_wp2_with fail
     refine (rvright_as _ a ea pa _ HVA.out HLA.out HRA.out).mono ?_
     rintro r w1 ⟨rfl,hb1⟩
     have HB1:=Lib.hid hb1
     clear hb1
     go_wp2_with fail
     refine (is_any ea pa _).mono ?_
     rintro r w2 ⟨rfl,hb2⟩
     rw [hne]
     have HB2:Hid (Below w.heap.size w w2):=HB1.out.trans (hb2.mono HB1.out.size)
     clear hb2
     go_wp2_with fail
     refine (rvright_as _ b eb pb _ (HVB.out.below HB2.out) HLB.out HRB.out).mono ?_
     rintro r w3 ⟨rfl,hb3⟩
     have HB3:Hid (Below w.heap.size w w3):=HB2.out.trans (hb3.mono HB2.out.size)
     clear hb3
     go_wp2_with fail
     refine (is_any eb pb _).mono ?_
     rintro r w4 ⟨rfl,hb4⟩
     rw [hne2]
     have HB4:Hid (Below w.heap.size w w4):=HB3.out.trans (hb4.mono HB3.out.size)
     clear hb4
     go_wp2
     go_loopw [5,18] (fun o i wr=>∃ (k:Nat) (ok:Bool),k≤nb∧i=.int .i64 k∧o=.bool ok∧covB a b=(ok && covA a (b.drop k))∧Below w.heap.size w wr) (fun _ i _=>nb - (intOf i).toNat)
     case atStart=>exact ⟨0,true,by omega,rfl,rfl,HC2.out,HB4.out⟩
     case round =>
       obtain ⟨k,ok,hk,rfl,rfl,heq,hbel⟩:=hrel
       have HEQ:=Lib.hid heq
       have HB:=Lib.hid hbel
       have hzr:=hbel.size
       clear heq hbel
       by_cases hlt:k < nb
       · obtain ⟨t, ht⟩ : ∃ t, b[k]? = some t := ⟨b[k]'(by have := HNB.out; omega), List.getElem?_eq_getElem _⟩
         obtain ⟨b1,o1,rfl,hb1,p0,p1⟩:=FB.out k t ht
         have hd:=covA_dropR (a:=a) ht
         obtain ⟨rep,time⟩:=t
         simp only at p0 p1 hd
         have q0:=(HB.out.cell (p:=⟨b1,o1 + k * 2,none⟩) hb1).trans p0
         have q1:=(HB.out.cell (p:=⟨b1,o1 + k * 2 + 1,none⟩) hb1).trans p1
         cases ok with
         | false =>
           have HW:Hid (covB a b=(false && covA a (b.drop (k + 1)))):=HEQ
           clear p0 p1 ht hd
           go_wp2
           go_quiet (fail)
           go_wp2
           go_roundw
           case rel=>exact ⟨k + 1,false,by omega,by go_num,rfl,HW.out,below_drewN (HB.out.alloc hzr _) _⟩
           case measure=>simp [intOf];omega
         | true =>
           obtain ⟨x,hx⟩:∃ x,ofF a rep=x:=⟨_,rfl⟩
           rw [hx] at hd
           have HX:=Lib.hid hx
           by_cases hlx:time≤x
           · have HW:Hid (covB a b=(true && covA a (b.drop (k + 1)))):=Lib.hid (show covB a b=(true && covA a (b.drop (k + 1))) by rw [HEQ.out,hd,decide_eq_true hlx,Bool.true_and])
             clear p0 p1 ht hd hx
             go_wp2
             go_quiet ((go_at_call 40;exact rof_q _ a rep x _ _ ((HVA.out.below HB.out).alloc _) HLA.out HX.out))
             go_wp2
             go_roundw
             case rel=>exact ⟨k + 1,true,by omega,by go_num,rfl,HW.out,below_drewN (HB.out.alloc hzr _) _⟩
             case measure=>simp [intOf];omega
           · have HW:Hid (covB a b=(false && covA a (b.drop (k + 1)))):=Lib.hid (show covB a b=(false && covA a (b.drop (k + 1))) by rw [HEQ.out,hd,decide_eq_false hlx];rfl)
             clear p0 p1 ht hd hx
             go_wp2
             go_quiet ((go_at_call 40;exact rof_q _ a rep x _ _ ((HVA.out.below HB.out).alloc _) HLA.out HX.out))
             go_wp2
             go_roundw
             case rel=>exact ⟨k + 1,false,by omega,by go_num,by first | rfl | (congr 1;exact decide_eq_false (by omega)),HW.out,below_drewN (HB.out.alloc hzr _) _⟩
             case measure=>simp [intOf];omega
       · have HW:Hid (covB a b=ok):=Lib.hid (show covB a b=ok by rw [HEQ.out,List.drop_eq_nil_of_le (by have:=HNB.out;omega)];show (ok && true)=ok;simp)
         go_wp2
         go_ret
         exact ⟨by rw [HW.out];rfl,HB.out⟩
   · have hne2:((eb:Int) == 0)=false:=by simp;exact h2
     have HC2:Hid (covB a b=false):=Lib.hid (show covB a b=false by rw [HC.out,decide_eq_false h2];simp)
     clear h1 h2 HC
     go_enter Tryz.func32,Tryz.ntmps32
     go_wp2_with fail
     refine (rvright_as _ a ea pa _ HVA.out HLA.out HRA.out).mono ?_
     rintro r w1 ⟨rfl,hb1⟩
     have HB1:=Lib.hid hb1
     clear hb1
     go_wp2_with fail
     refine (is_any ea pa _).mono ?_
     rintro r w2 ⟨rfl,hb2⟩
     rw [hne]
     have HB2:Hid (Below w.heap.size w w2):=HB1.out.trans (hb2.mono HB1.out.size)
     clear hb2
     go_wp2_with fail
     refine (rvright_as _ b eb pb _ (HVB.out.below HB2.out) HLB.out HRB.out).mono ?_
     rintro r w3 ⟨rfl,hb3⟩
     have HB3:Hid (Below w.heap.size w w3):=HB2.out.trans (hb3.mono HB2.out.size)
     clear hb3
     go_wp2_with fail
     refine (is_any eb pb _).mono ?_
     rintro r w4 ⟨rfl,hb4⟩
     rw [hne2]
     have HB4:Hid (Below w.heap.size w w4):=HB3.out.trans (hb4.mono HB3.out.size)
     clear hb4
     go_wp2
     go_loopw [5,18] (fun o i wr=>∃ (k:Nat),k≤nb∧i=.int .i64 k∧o=.bool false∧Below w.heap.size w wr) (fun _ i _=>nb - (intOf i).toNat)
     case atStart=>exact ⟨0,by omega,rfl,rfl,HB4.out⟩
     case round =>
       obtain ⟨k,hk,rfl,rfl,hbel⟩:=hrel
       have HB:=Lib.hid hbel
       have hzr:=hbel.size
       clear hbel
       by_cases hlt:k < nb
       · obtain ⟨t, ht⟩ : ∃ t, b[k]? = some t := ⟨b[k]'(by have := HNB.out; omega), List.getElem?_eq_getElem _⟩
         obtain ⟨b1,o1,rfl,hb1,p0,p1⟩:=FB.out k t ht
         obtain ⟨rep,time⟩:=t
         simp only at p0 p1
         have q0:=(HB.out.cell (p:=⟨b1,o1 + k * 2,none⟩) hb1).trans p0
         have q1:=(HB.out.cell (p:=⟨b1,o1 + k * 2 + 1,none⟩) hb1).trans p1
         clear p0 p1 ht
         go_wp2
         go_quiet (fail)
         go_wp2
         go_roundw
         case rel=>exact ⟨k + 1,by omega,by go_num,rfl,below_drewN (HB.out.alloc hzr _) _⟩
         case measure=>simp [intOf];omega
       · go_wp2
         go_ret
         exact ⟨by rw [HC2.out];rfl,HB.out⟩
 · have hne:((ea:Int) == 0)=false:=by simp;exact h1
   have HC2:Hid (covB a b=false):=Lib.hid (show covB a b=false by rw [HC.out,decide_eq_false h1];simp)
   clear h1 HC
   go_enter Tryz.func32,Tryz.ntmps32
   go_wp2_with fail
   refine (rvright_as _ a ea pa _ HVA.out HLA.out HRA.out).mono ?_
   rintro r w1 ⟨rfl,hb1⟩
   have HB1:=Lib.hid hb1
   clear hb1
   go_wp2_with fail
   refine (is_any ea pa _).mono ?_
   rintro r w2 ⟨rfl,hb2⟩
   rw [hne]
   have HB4:Hid (Below w.heap.size w w2):=HB1.out.trans (hb2.mono HB1.out.size)
   clear hb2
   go_wp2
   go_loopw [5,18] (fun o i wr=>∃ (k:Nat),k≤nb∧i=.int .i64 k∧o=.bool false∧Below w.heap.size w wr) (fun _ i _=>nb - (intOf i).toNat)
   case atStart=>exact ⟨0,by omega,rfl,rfl,HB4.out⟩
   case round =>
     obtain ⟨k,hk,rfl,rfl,hbel⟩:=hrel
     have HB:=Lib.hid hbel
     have hzr:=hbel.size
     clear hbel
     by_cases hlt:k < nb
     · obtain ⟨t, ht⟩ : ∃ t, b[k]? = some t := ⟨b[k]'(by have := HNB.out; omega), List.getElem?_eq_getElem _⟩
       obtain ⟨b1,o1,rfl,hb1,p0,p1⟩:=FB.out k t ht
       obtain ⟨rep,time⟩:=t
       simp only at p0 p1
       have q0:=(HB.out.cell (p:=⟨b1,o1 + k * 2,none⟩) hb1).trans p0
       have q1:=(HB.out.cell (p:=⟨b1,o1 + k * 2 + 1,none⟩) hb1).trans p1
       clear p0 p1 ht
       go_wp2
       go_quiet (fail)
       go_wp2
       go_roundw
       case rel=>exact ⟨k + 1,by omega,by go_num,rfl,below_drewN (HB.out.alloc hzr _) _⟩
       case measure=>simp [intOf];omega
     · go_wp2
       go_ret
       exact ⟨by rw [HC2.out];rfl,HB.out⟩
end Go.Proofs.YtddbpnplbcjpgaaGreatDoor
