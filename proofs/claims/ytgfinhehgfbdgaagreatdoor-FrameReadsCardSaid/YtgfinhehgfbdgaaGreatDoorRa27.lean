import Derived.Test.YtgfinhehgfbdgaaGreatDoorRa26
import Derived.Test.YtgfinhehgfbdgaaGreatDoorRa18
import Derived.Test.YtgfinhehgfbdgaaGreatDoorRa13
namespace Go.Proofs.YtgfinhehgfbdgaaGreatDoor
open Go.RowKit
theorem place_of {h:List Ent} {e:Ent}:∀ {last:Int} {p:Nat},okV last h→h[p]? = some e→placeF h e.rep=p:=by
 induction h with
 | nil=>intro last p _ hp;simp at hp
 | cons d r ih =>
   intro last p ho hp;unfold placeF;rw [List.findIdx_cons];cases p with
   | zero =>
     obtain rfl:d=e:=by simpa using hp
     simp
   | succ p =>
     have hp2:r[p]? = some e:=by simpa using hp
     have h1:=okV_mem ho.2 e (List.mem_of_getElem? hp2);have hne:decide (d.rep=e.rep)=false:=by simp;omega
     rw [hne];have h2:=ih ho.2 hp2;unfold placeF at h2;simp [h2]
theorem kind_cases (l:List UInt8):(∃ e,kindF l=(0,0,e)∧e≠0)∨∃ c r,l=c::r∧kindF l=(c.toNat,1,0)∧1≤c.toNat∧c.toNat≤4:=by
 cases l with
 | nil=>exact .inl ⟨7,rfl,by decide⟩
 | cons c r =>
   rw [kindF_cons];by_cases h:c.toNat<1∨4<c.toNat
   · exact .inl ⟨1,by rw [if_pos h],by decide⟩
   · exact .inr ⟨c,r,rfl,by rw [if_neg h],by omega,by omega⟩
theorem fill_only {T R K:Int} {key:ByteArray} {l:List UInt8} (h:fillE T R K key l=0) :
   wriE T R K key (fillV K l) (getN K l).1=0∧(tailB K (fillV K l) (getN K l).1).data.toList=l.take (fillN K l)∧fillN K l≤l.length:=by
 obtain ⟨n,k,e,hn⟩:∃ n k e,getN K l=(n,k,e):=⟨_,_,_,rfl⟩;by_cases he:e=0
 · subst he;obtain ⟨v,j,e2,hv⟩:∃ v j e2,getV K (l.drop k)=(v,j,e2):=⟨_,_,_,rfl⟩;by_cases he2:e2=0
   · subst he2;rw [fillE_w hn hv] at h;have h2:=only_t hn hv;unfold fillV fillN;rw [hn];simp only;rw [hv];simp only;exact ⟨h,h2.1,h2.2⟩
   · rw [fillE_v hn hv he2] at h;exact absurd h he2
 · rw [fillE_n hn he] at h;exact absurd h he
theorem unOne_only {s:List UInt8} {h:List Ent} {T:List ByteArray} {a b n:Nat} {ahead:Int} {x:Wr} (hh:rightV h) (h0:unOne s h T a ahead=.inr (b,x,n)) :
   T[n]? = some x.key∧wE x=0∧ahead≤x.time∧x.time≤1099511627776∧placeF h x.rep<h.length∧s.drop a=oneB h ahead x n++s.drop b∧a<b∧b≤s.length∧(∃ e∈h,e.rep=x.rep):=by
 rcases kind_cases (s.drop a) with ⟨e,hk,he⟩ | ⟨c,r,hc,hk,hc1,hc4⟩
 · rw [unOne_kind hk he] at h0;cases h0
 · have hal : a < s.length := by
     rcases Nat.lt_or_ge a s.length with h' | h'
     · exact h'
     · rw [List.drop_of_length_le h'] at hc;cases hc
   have hr:r=s.drop (a+1):=by rw [←List.drop_drop,hc];rfl
   rcases intL_cases (s.drop (a+1)) (1099511627776-ahead) with ⟨e,h1,he,_⟩ | ⟨t,k1,h1,ht,_,_,hk1l,hp1⟩
   · rw [unOne_time hk h1 he] at h0;cases h0
   · rcases intL_cases (s.drop (a+1+k1)) ((h.length:Int)-1) with ⟨e,h2,he,_⟩ | ⟨p,k2,h2,hp,_,_,hk2l,hp2⟩
     · rw [unOne_rep hk h1 h2 he] at h0;cases h0
     · rcases intL_cases (s.drop (a+1+k1+k2)) ((T.length:Int)-1) with ⟨e,h3,he,_⟩ | ⟨m,k3,h3,hm,_,_,hk3l,hp3⟩
       · rw [unOne_key hk h1 h2 h3 he] at h0;cases h0
       · by_cases h4:fillE (ahead+t) (h.getD p ⟨0,0⟩).rep c.toNat (T.getD m ⟨#[]⟩) (s.drop (a+1+k1+k2+k3))=0
         · rw [unOne_ok hk h1 h2 h3 h4] at h0;simp only [Sum.inr.injEq,Prod.mk.injEq] at h0
           obtain ⟨hb,rfl,rfl⟩:=h0;obtain ⟨f1,f2,f3⟩:=fill_only h4;have e1:=drop_put hp1;have e2:=drop_put hp2;have e3:=drop_put hp3;have e4:=drop_put f2;rw [List.length_drop] at hk1l hk2l hk3l f3;obtain ⟨L,hL⟩:∃ L,s.drop (a+1+k1+k2+k3)=L:=⟨_,rfl⟩;rw [hL] at f1 e3 e4 hb ⊢;rw [hL] at f3;obtain ⟨e, he⟩ : ∃ e, h[p]? = some e := ⟨h[p]'(by omega), List.getElem?_eq_getElem _⟩;have hge:h.getD p ⟨0,0⟩=e:=by rw [List.getD_eq_getElem?_getD,he];rfl
           have hme:T[m]? = some (T.getD m ⟨#[]⟩):=by
             obtain ⟨k, hk⟩ : ∃ k, T[m]? = some k := ⟨T[m]'(by omega), List.getElem?_eq_getElem _⟩;rw [List.getD_eq_getElem?_getD,hk];rfl
           have hpl:placeF h (h.getD p ⟨0,0⟩).rep=p:=by rw [hge];exact place_of hh.2 he
           refine ⟨hme,f1,by show ahead≤ahead+(t:Int);omega,by show ahead+(t:Int)≤_;omega,by show placeF h (h.getD p ⟨0,0⟩).rep<_;rw [hpl];omega,?_,by omega,by omega,?_⟩
           · unfold oneB tailL;simp only
             rw [hpl,show (ahead+(t:Int)-ahead).toNat=t by omega,show ((c.toNat:Nat):Int).toNat=c.toNat by omega,ofNat_toNat,hc,hr,e1,e2,e3];obtain ⟨X,hX⟩:∃ X,(tailB (c.toNat:Int) (fillV (c.toNat:Int) L) (getN (c.toNat:Int) L).1).data.toList=X:=⟨_,rfl⟩;rw [hX] at e4 ⊢;rw [hb] at e4;rw [e4];simp
           · exact ⟨e,List.mem_of_getElem? he,by rw [hge]⟩
         · rw [unOne_fill hk h1 h2 h3 rfl h4] at h0;cases h0
theorem unW_only {s:List UInt8} {h:List Ent} {T:List ByteArray} (hh:rightV h) (k:Nat):∀ (a b:Nat) (ahead:Int) (W0 W:List Wr) (N0 N:List Nat),a≤s.length→unW s h T k a ahead W0 N0=.inr (b,W,N) →
   ∃ W1 N1,W=W0++W1∧N=N0++N1∧W1.length=k∧okRow h T ahead W1 N1∧s.drop a=rowB h ahead W1 N1++s.drop b∧b≤s.length∧a≤b:=by
 induction k with
 | zero =>
   intro a b ahead W0 W N0 N ha h0;rw [unW] at h0;simp only [Sum.inr.injEq,Prod.mk.injEq] at h0
   obtain ⟨rfl,rfl,rfl⟩:=h0;exact ⟨[],[],by simp,by simp,rfl,rfl,rfl,ha,Nat.le_refl _⟩
 | succ k ih =>
   intro a b ahead W0 W N0 N ha h0
   match h1:unOne s h T a ahead with
   | .inl r=>rw [unW_bad h1] at h0;cases h0
   | .inr (c,x,n) =>
     rw [unW_ok h1] at h0;obtain ⟨o1,o2,o3,o4,o5,o6,o7,o8,o9⟩:=unOne_only hh h1;obtain ⟨W1,N1,rfl,rfl,g3,g4,g5,g6,g7⟩:=ih _ _ _ _ _ _ _ o8 h0;refine ⟨x::W1,n::N1,by simp,by simp,by simp [g3],⟨⟨o2,o3,o5,o1⟩,g4⟩,?_,g6,by omega⟩;rw [rowB_cons,List.append_assoc,←g5];exact o6
theorem unT_only {s:List UInt8} (k:Nat):∀ (a b:Nat) (T0 T:List ByteArray),a≤s.length→unT s k a T0=.inr (b,T)→∃ T1,T=T0++T1∧T1.length=k∧s.drop a=textsB T1++s.drop b∧b≤s.length∧a≤b:=by
 induction k with
 | zero =>
   intro a b T0 T ha h0;rw [unT] at h0;simp only [Sum.inr.injEq,Prod.mk.injEq] at h0
   obtain ⟨rfl,rfl⟩:=h0;exact ⟨[],by simp,rfl,rfl,ha,Nat.le_refl _⟩
 | succ k ih =>
   intro a b T0 T ha h0;obtain ⟨t,n,e,hg⟩:∃ t n e,getS (s.drop a)=(t,n,e):=⟨_,_,_,rfl⟩;by_cases he:e=0
   · subst he;obtain ⟨w1,w2,w3,w4⟩:=wspan_only hg;rw [List.length_drop] at w2;rw [unT_ok hg] at h0;obtain ⟨T1,rfl,g2,g3,g4,g5⟩:=ih _ _ _ _ (by omega) h0;refine ⟨⟨t.toArray⟩::T1,by simp,by simp [g2],?_,g4,by omega⟩;rw [textsB_cons,List.append_assoc,←g3];exact drop_put w4
   · rw [unT_bad hg he] at h0;cases h0
theorem okRow_keys {h:List Ent} {T:List ByteArray} (l:List Wr):∀ (ahead:Int) (N:List Nat),okRow h T ahead l N→outG T (N.map Int.ofNat)=keysW l:=by
 induction l with
 | nil=>intro ahead N hN;have hN:N=[]:=hN;subst hN;rfl
 | cons x r ih =>
   intro ahead N hN;cases N with
   | nil=>exact absurd hN id
   | cons n N =>
     have h2:=ih _ _ hN.2;unfold outG keysW at h2 ⊢;rw [List.map_cons,List.map_cons,List.map_cons,h2];have h4:=hN.1.2.2.2
     congr 1
     show T.getD (Int.ofNat n).toNat ByteArray.empty=x.key
     rw [List.getD_eq_getElem?_getD,show (Int.ofNat n).toNat=n from rfl,h4];rfl
theorem unb_only {s:List UInt8} {f h:List Ent} {l:List Wr} (h0:unbF s=.inr (f,h,l)):rightB f h l∧bodyL f h l=s∧s.length≤20000:=by
 by_cases hl:20000<s.length
 · rw [unb_long hl] at h0;cases h0
 obtain ⟨e1,n,f',h1⟩:∃ e n f',vreadF s=(e,n,f'):=⟨_,_,_,rfl⟩;have z1:e1=0:=by
   by_cases z:e1=0
   · exact z
   · rw [unb_from hl h1 z] at h0;cases h0
 subst z1;obtain ⟨r1,n1,n2,w1⟩:=vread_only h1;obtain ⟨e2,m,h',h2⟩:∃ e m h',vreadF (s.drop n)=(e,m,h'):=⟨_,_,_,rfl⟩;have z2:e2=0:=by
   by_cases z:e2=0
   · exact z
   · rw [unb_have hl h1 h2 z] at h0;cases h0
 subst z2;obtain ⟨r2,m1,m2,w2⟩:=vread_only h2;rw [List.length_drop] at m2;rcases intL_cases (s.drop (n+m)) 60 with ⟨e,h3,he,_⟩ | ⟨k,j,h3,hk,_,_,hjl,hp3⟩
 · rw [unb_texts hl h1 h2 h3 he] at h0;cases h0
 rw [List.length_drop] at hjl
 match h4:unT s k (n+m+j) [] with
 | .inl (e,p)=>rw [unb_text hl h1 h2 h3 h4] at h0;cases h0
 | .inr (b,T) =>
   obtain ⟨T1,hT1,hTl,q4,hb1,hb2⟩:=unT_only k _ _ _ _ (by omega) h4;rw [List.nil_append] at hT1;subst hT1;rcases intL_cases (s.drop b) 60 with ⟨e,h5,he,_⟩ | ⟨k2,j2,h5,hk2,_,_,hj2l,hp5⟩
   · rw [unb_writes hl h1 h2 h3 h4 h5 he] at h0;cases h0
   rw [List.length_drop] at hj2l
   match h6:unW s h' T k2 (b+j2) 0 [] [] with
   | .inl (e,p)=>rw [unb_write hl h1 h2 h3 h4 h5 h6] at h0;cases h0
   | .inr (c,W,N) =>
     obtain ⟨W1,N1,hW1,hN1,hWl,hrow,q6,hc1,hc2⟩:=unW_only r2 k2 _ _ _ _ _ _ _ (by omega) h6;rw [List.nil_append] at hW1 hN1;subst hW1;subst hN1;rw [unb_rest hl h1 h2 h3 h4 h5 h6] at h0;by_cases z3:c<s.length
     · rw [if_pos z3] at h0;cases h0
     rw [if_neg z3] at h0;have z4:(listF T (N.map Int.ofNat)).2.1=0:=by
       by_cases z:(listF T (N.map Int.ofNat)).2.1=0
       · exact z
       · rw [if_pos z] at h0;cases h0
     rw [if_neg (by simpa using z4)] at h0;have z5:(batF f' h' W).1=0:=by
       by_cases z:(batF f' h' W).1=0
       · exact z
       · rw [if_pos z] at h0;cases h0
     rw [if_neg (by simpa using z5)] at h0;simp only [Sum.inr.injEq,Prod.mk.injEq] at h0
     obtain ⟨rfl,rfl,rfl⟩:=h0;obtain ⟨_,lt,la⟩:=listF_ok z4;rw [okRow_keys _ _ _ hrow] at lt la;have la2:atK [] (keysW W)=N:=by
       have hinj:∀ (x y:List Nat),x.map Int.ofNat=y.map Int.ofNat→x=y:=fun x y hxy=>(List.map_inj_right (fun a b hab=>Int.ofNat.inj hab)).1 hxy
       exact hinj _ _ la
     refine ⟨z5,?_,by omega⟩;have hc:s.drop c=[]:=List.drop_of_length_le (by omega);have e1:=drop_put (a:=0) (s:=s) (k:=n) (p:=vwriteL f') (by rw [List.drop_zero];exact w1);rw [List.drop_zero,Nat.zero_add] at e1;have e2:=drop_put w2;have e3:=drop_put hp3;have e5:=drop_put hp5;rw [hc,List.append_nil] at q6;unfold bodyL;rw [lt,la2,hTl,hWl];rw [e1,e2,e3,q4,e5,q6];simp
end Go.Proofs.YtgfinhehgfbdgaaGreatDoor
namespace Go.Proofs.YtgfinhehgfbdgaaGreatDoor
open Go.RowKit
theorem own_apart {w:World} {base base':Nat} {e1 e2:TypeId} {k1 k2 n1 n2:Nat} {v1 v2:Value} {x1 x2:List Value} (h1:w.ownsRow base e1 k1 v1 n1 x1) (h2:w.ownsRow base' e2 k2 v2 n2 x2) (hne:e1≠e2) :
   v1.ownBlock=none∨v1.ownBlock≠v2.ownBlock:=by
 rcases h1.2 with ⟨rfl,_⟩ | ⟨g,cap,cur,rfl,_,hh,_⟩
 · exact .inl rfl
 · refine .inr ?_;rcases h2.2 with ⟨rfl,_⟩ | ⟨g',cap',cur',rfl,_,hh',_⟩
   · simp [Value.ownBlock]
   · intro e;have:g=g':=by simpa [Value.ownBlock] using e
     subst this;rw [hh] at hh';injection hh' with hh'
     injection hh' with _ ht
     exact hne ht
def LReadIs (w:World) (s:List UInt8) (e:Ending) (w':World):Prop :=
 ∃ v err,e=.returned (.tuple #[v,err])∧ownsK w' w.heap.size v (readF s).2∧atIs w' err (readF s).1∧Below w.heap.size w w'
theorem atIs.iface {w:World} {v:Value} {r:Nat×Int} (h:atIs w v r) (h0:r.1≠0):∃ t u,v=.iface t u:=by
 rcases h with ⟨h,_⟩ | ⟨_,b,h,_⟩
 · exact absurd (by rw [h]) h0
 · exact ⟨_,_,h⟩
theorem atIs.nil {w:World} {v:Value} {r:Nat×Int} (h:atIs w v r) (h0:r.1=0):v=.nilIface:=by
 rcases h with ⟨_,h⟩ | ⟨h,_⟩
 · exact h
 · exact absurd h0 h
theorem getT_err {l:List UInt8} {e p:Nat} (hg:getT l=.inl (e,p)):e≠0:=by
 intro h0;subst h0;unfold getT at hg;split at hg
 · rename_i hne;injection hg with hg;injection hg with hg _;exact hne hg
 · split at hg
   · split at hg
     · injection hg with hg;injection hg with hg _;omega
     · split at hg
       · injection hg with hg;injection hg with hg _;omega
       · cases hg
   · split at hg
     · injection hg with hg;injection hg with hg _;omega
     · split at hg
       · rename_i hne;injection hg with hg;injection hg with hg _;exact hne hg
       · cases hg
theorem rightBL_err (l:List Tok) (b:List Nat):(rightBL l b).1=(rightF l 0 0).1:=by
 unfold rightBL;split
 · rename_i h;exact h.symm
 · rfl
set_option maxRecDepth 100000 in
set_option maxHeartbeats 4000000 in
theorem lzread_any (s:ByteArray) (w:World) (hs:s.size≤400000) (hg:errT w) :
   Calls Tryz.prog 106 #[.string s] w (LReadIs w s.data.toList):=by
 have HG:=Lib.hid hg;have hlen:s.data.toList.length=s.size:=(size_data s).symm;have HL:=Lib.hid hlen;clear hg hlen;go_enter Tryz.func106,Tryz.ntmps106
 go_wp2
 go_loopw [4,5,6] (fun lv bv av wr=>∃ (f a:Nat) (l:List Tok) (b:List Nat),av=.int .i64 a∧a≤s.size∧s.size≤a+f∧l.length≤a∧b.length=l.length∧(∀ t∈l,t.own.size≤140737488351232)∧rdF s.data.toList s.data.toList.length 0 [] []=rdF s.data.toList f a l b∧ownsK wr w.heap.size lv l∧ownsN wr w.heap.size bv b∧Below w.heap.size w wr) (fun _ _ av _=>s.size-(intOf av).toNat)
 case atStart=>exact ⟨s.size,0,[],[],rfl,by omega,by omega,by simp,rfl,(fun t h=>by cases h),by rw [HL.out],ownsK_nil _ _,ownsN_nil _ _,Below.refl _ _⟩
 case round =>
   obtain ⟨f,a,l,b,rfl,ha,hf,hla,hbl,hz,heq,hok,hon,hbel⟩:=hrel;have HZ:=Lib.hid hz;have HBL:=Lib.hid hbl;have HEQ:=Lib.hid heq;have HK:=Lib.hid hok;have HN:=Lib.hid hon;have HB:=Lib.hid hbel;have hzr:=hbel.size;have HGR:=Lib.hid (HG.out.below (hbel.mono (Nat.le_refl _)));clear hz hbl heq hok hon hbel;by_cases hlt:a<s.size
   · obtain ⟨f',rfl⟩:∃ f',f=f'+1:=⟨f-1,by omega⟩;have hlt':a<s.data.toList.length:=by rw [HL.out];exact hlt
     match hgt:getT (s.data.toList.drop a) with
     | .inl (e,p) =>
       have HE:Hid (rdF s.data.toList s.data.toList.length 0 [] []=.inl (e,a+p)):=Lib.hid (show rdF s.data.toList s.data.toList.length 0 [] []=.inl (e,a+p) by rw [HEQ.out,rdF_bad hlt' hgt]);have HNE:=Lib.hid (getT_err hgt);have HGT:=Lib.hid hgt;clear hgt hlt';go_wp2_with fail
       refine (lzget_any s a _ (by omega) (by omega) HGR.out).mono ?_;rw [HGT.out];rintro r w1 ⟨err,rfl,hat,hb1⟩;have HAT:=Lib.hid hat;have HB1:Hid (Below w.heap.size w w1):=HB.out.trans (hb1.mono hzr);have hz1:=HB1.out.size;obtain ⟨ty,u,rfl⟩:=hat.iface HNE.out;clear hat hb1;go_wp2;go_ret2;refine ⟨_,_,rfl,?_⟩;rw [readF_bad HE.out];exact ⟨ownsK_nil _ _,HAT.out.below ((Below.refl _ _).alloc (Nat.le_refl _) _),HB1.out.alloc hz1 _⟩
     | .inr (t,k) =>
       obtain ⟨k1,k2,_,_,k5⟩:=getT_only hgt;rw [List.length_drop,HL.out] at k2 k5;have HE:Hid (rdF s.data.toList s.data.toList.length 0 [] []=rdF s.data.toList f' (a+k) (l++[t]) (b++[a])):=Lib.hid (show rdF s.data.toList s.data.toList.length 0 [] []=rdF s.data.toList f' (a+k) (l++[t]) (b++[a]) by rw [HEQ.out,rdF_ok hlt' hgt]);have HGT:=Lib.hid hgt;have HZ2:Hid (∀ u∈l++[t],u.own.size≤140737488351232):=Lib.hid (show ∀ u∈l++[t],u.own.size≤140737488351232 from fun u hu=>by
         rcases List.mem_append.1 hu with hu | hu
         · exact HZ.out u hu
         · rw [List.mem_singleton.1 hu];omega)
       have HTV:Hid (tokV t=.agg #[.string t.own,.int .i64 t.back,.int .i64 t.size]):=rfl;clear hgt hlt' k5;go_wp2_with fail
       refine (lzget_any s a _ (by omega) (by omega) HGR.out).mono ?_;rw [HGT.out];rintro r w1 ⟨rfl,hb1⟩;have HB1:Hid (Below w.heap.size w w1):=HB.out.trans (hb1.mono hzr);have hz1:=HB1.out.size;have HK1:=Lib.hid (HK.out.below hb1);have HN1:=Lib.hid (HN.out.below hb1);clear hb1;rw [HTV.out];go_wp2_with (at_builtin;refine wpList_append_tok rfl _ _ rfl w.heap.size _ l rfl ((HK1.out.alloc _).alloc _) (w1.heap.size+1) 1 rfl t ?c1 ?c2 ?c3 ?_)
       case c1=>have:=tokBlk_new (w1.alloc (.cells #[.string t.own,.int .i64 t.back,.int .i64 t.size] 163)) t.own t.back t.size;simpa using this
       case c2=>omega
       case c3=>simp;omega
       · intro g cap w2 ho2 hg2;have HB2:Hid (Below w.heap.size w w2):=((HB1.out.alloc hz1 _).alloc (by simp;omega) _).grown hg2 (by simp;omega) (fun g hg=>(HK1.out.lt g hg).1);have HN2:=Lib.hid (show ownsN w2 w.heap.size _ b from World.ownsRow.kept ((HN1.out.alloc _).alloc _) hg2 (own_apart HN1.out HK1.out (show 3≠163 by decide)));have HK2:=Lib.hid ho2;have hz2:=HB2.out.size;clear ho2 hg2;go_wp2_with (at_builtin;refine wpList_append_int rfl _ _ rfl w.heap.size _ b rfl (HN2.out.alloc _) ⟨w2.heap.size,0,none⟩ 1 rfl a ?c4 ?c5 ?c6 ?_)
         case c4=>simp [Addr.add]
         case c5=>have:=HBL.out;omega
         case c6=>simp;omega
         · intro g' cap' w3 ho3 hg3;have HB3:Hid (Below w.heap.size w w3):=(HB2.out.alloc hz2 _).grown hg3 (by simp;omega) (fun g hg=>(HN2.out.lt g hg).1);have HK3:Hid (ownsK w3 w.heap.size (.slice (some ⟨g,0,none⟩) (l.length+1) cap) (l++[t])):=World.ownsRow.kept (HK2.out.alloc _) hg3 (own_apart HK2.out HN2.out (show 163≠3 by decide));have HN3:=Lib.hid ho3;clear ho3 hg3;obtain ⟨l1,hl1⟩:∃ l1,l++[t]=l1:=⟨_,rfl⟩;have hll:l1.length=l.length+1:=by rw [←hl1];simp
           rw [hl1] at HK3 HE HZ2;have HBL2:Hid ((b++[a]).length=l1.length):=Lib.hid (show (b++[a]).length=l1.length by rw [hll,List.length_append,HBL.out];rfl);clear hl1;go_wp2;go_roundw
           case rel=>exact ⟨f',a+k,l1,b++[a],by go_num,by omega,by omega,by omega,HBL2.out,HZ2.out,HE.out,HK3.out,HN3.out,HB3.out⟩
           case measure=>simp [intOf];omega
   · have hlt':¬ a<s.data.toList.length:=by rw [HL.out];exact hlt
     have HE:Hid (rdF s.data.toList s.data.toList.length 0 [] []=.inr (l,b)):=Lib.hid (show rdF s.data.toList s.data.toList.length 0 [] []=.inr (l,b) by rw [HEQ.out,rdF_end hlt']);clear hlt';go_wp2_with fail
     refine (lzright_any _ _ l b w.heap.size _ HK.out.is (by omega) HZ.out HN.out HBL.out).mono ?_;rintro r w1 ⟨err,rfl,hat,hb1⟩;have HAT:=Lib.hid hat;have HB1:Hid (Below w.heap.size w w1):=HB.out.trans (hb1.mono hzr);have HK1:=Lib.hid (HK.out.below hb1);clear hb1;by_cases hr:(rightF l 0 0).1=0
     · obtain rfl:=hat.nil (by rw [rightBL_err];exact hr);have HRD:=Lib.hid (readF_ok HE.out hr);clear hat hr;go_wp2;go_ret2;refine ⟨_,_,rfl,?_⟩;rw [HRD.out];exact ⟨HK1.out,.inl ⟨rfl,rfl⟩,HB1.out⟩
     · obtain ⟨ty,u,rfl⟩:=hat.iface (by rw [rightBL_err];exact hr);have HRD:=Lib.hid (readF_wrong HE.out hr);have HAT2:Hid (atIs w1 (.iface ty u) ((rightF l 0 0).1,((b.getD (rightF l 0 0).2.toNat 0:Nat):Int))):=by
         have h:=HAT.out;unfold rightBL at h;rw [if_neg hr] at h;exact h
       clear hat hr;go_wp2;go_ret2;refine ⟨_,_,rfl,?_⟩;rw [HRD.out];exact ⟨ownsK_nil _ _,HAT2.out,HB1.out⟩
end Go.Proofs.YtgfinhehgfbdgaaGreatDoor
namespace Go.Proofs.YtgfinhehgfbdgaaGreatDoor
open Go.RowKit
theorem brightB (vf vh vw:Value) (f h:List Ent) (l:List Wr) (w:World) (hx:BatIs w vf vh vw f h l) (hg:errT w) :
   Calls Tryz.prog 23 #[.agg #[vf,vh,vw]] w (VRightIs w (batF f h l)) :=
 bright_any vf vh vw f h l w hx.1 hx.2.1 hx.2.2.1 hx.2.2.2.1 hx.2.2.2.2.1 hx.2.2.2.2.2.2 hg
end Go.Proofs.YtgfinhehgfbdgaaGreatDoor
