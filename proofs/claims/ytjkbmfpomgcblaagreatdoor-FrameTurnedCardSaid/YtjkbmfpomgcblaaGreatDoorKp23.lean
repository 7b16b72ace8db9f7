import Derived.Test.YtjkbmfpomgcblaaGreatDoorKp22
namespace Go.Proofs.YtjkbmfpomgcblaaGreatDoor
open Go.RowKit
theorem place_of {h:List Ent} {e:Ent}:∀ {last:Int} {p:Nat},okV last h→h[p]? = some e→placeF h e.rep=p:=by
 induction h with
 | nil=>intro last p _ hp;simp at hp
 | cons d r ih =>
   intro last p ho hp
   unfold placeF
   rw [List.findIdx_cons]
   cases p with
   | zero =>
     obtain rfl:d=e:=by simpa using hp
     simp
   | succ p =>
     have hp2:r[p]? = some e:=by simpa using hp
     have h1:=okV_mem ho.2 e (List.mem_of_getElem? hp2)
     have hne:decide (d.rep=e.rep)=false:=by simp;omega
     rw [hne]
     have h2:=ih ho.2 hp2
     unfold placeF at h2
     simp [h2]
theorem kind_cases (l:List UInt8):(∃ e,kindF l=(0,0,e)∧e≠0)∨∃ c r,l=c :: r∧kindF l=(c.toNat,1,0)∧1≤c.toNat∧c.toNat≤4:=by
 cases l with
 | nil=>exact .inl ⟨7,rfl,by decide⟩
 | cons c r =>
   rw [kindF_cons]
   by_cases h:c.toNat < 1∨4 < c.toNat
   · exact .inl ⟨1,by rw [if_pos h],by decide⟩
   · exact .inr ⟨c,r,rfl,by rw [if_neg h],by omega,by omega⟩
theorem fill_only {T R K:Int} {key:ByteArray} {l:List UInt8} (h:fillE T R K key l=0) :
   wriE T R K key (fillV K l) (getN K l).1=0∧(tailB K (fillV K l) (getN K l).1).data.toList=l.take (fillN K l)∧fillN K l≤l.length:=by
 obtain ⟨n,k,e,hn⟩:∃ n k e,getN K l=(n,k,e):=⟨_,_,_,rfl⟩
 by_cases he:e=0
 · subst he
   obtain ⟨v,j,e2,hv⟩:∃ v j e2,getV K (l.drop k)=(v,j,e2):=⟨_,_,_,rfl⟩
   by_cases he2:e2=0
   · subst he2
     rw [fillE_w hn hv] at h
     have h2:=only_t hn hv
     unfold fillV fillN
     rw [hn];simp only;rw [hv];simp only
     exact ⟨h,h2.1,h2.2⟩
   · rw [fillE_v hn hv he2] at h;exact absurd h he2
 · rw [fillE_n hn he] at h;exact absurd h he
theorem unOne_only {s:List UInt8} {h:List Ent} {T:List ByteArray} {a b n:Nat} {ahead:Int} {x:Wr} (hh:rightV h) (h0:unOne s h T a ahead=.inr (b,x,n)) :
   T[n]? = some x.key∧wE x=0∧ahead≤x.time∧x.time≤1099511627776∧placeF h x.rep < h.length∧s.drop a=oneB h ahead x n ++ s.drop b∧a < b∧b≤s.length∧(∃ e∈h,e.rep=x.rep):=by
 rcases kind_cases (s.drop a) with ⟨e,hk,he⟩ | ⟨c,r,hc,hk,hc1,hc4⟩
 · rw [unOne_kind hk he] at h0;cases h0
 · have hal : a < s.length := by
     rcases Nat.lt_or_ge a s.length with h' | h'
     · exact h'
     · rw [List.drop_of_length_le h'] at hc;cases hc
   have hr:r=s.drop (a + 1):=by rw [←List.drop_drop,hc];rfl
   rcases intL_cases (s.drop (a + 1)) (1099511627776 - ahead) with ⟨e,h1,he,_⟩ | ⟨t,k1,h1,ht,_,_,hk1l,hp1⟩
   · rw [unOne_time hk h1 he] at h0;cases h0
   · rcases intL_cases (s.drop (a + 1 + k1)) ((h.length:Int) - 1) with ⟨e,h2,he,_⟩ | ⟨p,k2,h2,hp,_,_,hk2l,hp2⟩
     · rw [unOne_rep hk h1 h2 he] at h0;cases h0
     · rcases intL_cases (s.drop (a + 1 + k1 + k2)) ((T.length:Int) - 1) with ⟨e,h3,he,_⟩ | ⟨m,k3,h3,hm,_,_,hk3l,hp3⟩
       · rw [unOne_key hk h1 h2 h3 he] at h0;cases h0
       · by_cases h4:fillE (ahead + t) (h.getD p ⟨0,0⟩).rep c.toNat (T.getD m ⟨#[]⟩) (s.drop (a + 1 + k1 + k2 + k3))=0
         · rw [unOne_ok hk h1 h2 h3 h4] at h0
           simp only [Sum.inr.injEq,Prod.mk.injEq] at h0
           obtain ⟨hb,rfl,rfl⟩:=h0
           obtain ⟨f1,f2,f3⟩:=fill_only h4
           have e1:=drop_put hp1
           have e2:=drop_put hp2
           have e3:=drop_put hp3
           have e4:=drop_put f2
           rw [List.length_drop] at hk1l hk2l hk3l f3
           obtain ⟨L,hL⟩:∃ L,s.drop (a + 1 + k1 + k2 + k3)=L:=⟨_,rfl⟩
           rw [hL] at f1 e3 e4 hb ⊢
           rw [hL] at f3
           obtain ⟨e, he⟩ : ∃ e, h[p]? = some e := ⟨h[p]'(by omega), List.getElem?_eq_getElem _⟩
           have hge:h.getD p ⟨0,0⟩=e:=by rw [List.getD_eq_getElem?_getD,he];rfl
           have hme:T[m]? = some (T.getD m ⟨#[]⟩):=by
             obtain ⟨k, hk⟩ : ∃ k, T[m]? = some k := ⟨T[m]'(by omega), List.getElem?_eq_getElem _⟩
             rw [List.getD_eq_getElem?_getD,hk];rfl
           have hpl:placeF h (h.getD p ⟨0,0⟩).rep=p:=by rw [hge];exact place_of hh.2 he
           refine ⟨hme,f1,by show ahead≤ahead + (t:Int);omega,by show ahead + (t:Int)≤_;omega,by show placeF h (h.getD p ⟨0,0⟩).rep < _;rw [hpl];omega,?_,by omega,by omega,?_⟩
           · unfold oneB tailL
             simp only
             rw [hpl,show (ahead + (t:Int) - ahead).toNat=t by omega,show ((c.toNat:Nat):Int).toNat=c.toNat by omega,ofNat_toNat,hc,hr,e1,e2,e3]
             obtain ⟨X,hX⟩:∃ X,(tailB (c.toNat:Int) (fillV (c.toNat:Int) L) (getN (c.toNat:Int) L).1).data.toList=X:=⟨_,rfl⟩
             rw [hX] at e4 ⊢
             rw [hb] at e4
             rw [e4]
             simp
           · exact ⟨e,List.mem_of_getElem? he,by rw [hge]⟩
         · rw [unOne_fill hk h1 h2 h3 rfl h4] at h0;cases h0
theorem unW_only {s:List UInt8} {h:List Ent} {T:List ByteArray} (hh:rightV h) (k:Nat):∀ (a b:Nat) (ahead:Int) (W0 W:List Wr) (N0 N:List Nat),a≤s.length→unW s h T k a ahead W0 N0=.inr (b,W,N) →
   ∃ W1 N1,W=W0 ++ W1∧N=N0 ++ N1∧W1.length=k∧okRow h T ahead W1 N1∧s.drop a=rowB h ahead W1 N1 ++ s.drop b∧b≤s.length∧a≤b:=by
 induction k with
 | zero =>
   intro a b ahead W0 W N0 N ha h0
   rw [unW] at h0
   simp only [Sum.inr.injEq,Prod.mk.injEq] at h0
   obtain ⟨rfl,rfl,rfl⟩:=h0
   exact ⟨[],[],by simp,by simp,rfl,rfl,rfl,ha,Nat.le_refl _⟩
 | succ k ih =>
   intro a b ahead W0 W N0 N ha h0
   match h1:unOne s h T a ahead with
   | .inl r=>rw [unW_bad h1] at h0;cases h0
   | .inr (c,x,n) =>
     rw [unW_ok h1] at h0
     obtain ⟨o1,o2,o3,o4,o5,o6,o7,o8,o9⟩:=unOne_only hh h1
     obtain ⟨W1,N1,rfl,rfl,g3,g4,g5,g6,g7⟩:=ih _ _ _ _ _ _ _ o8 h0
     refine ⟨x :: W1,n :: N1,by simp,by simp,by simp [g3],⟨⟨o2,o3,o5,o1⟩,g4⟩,?_,g6,by omega⟩
     rw [rowB_cons,List.append_assoc,←g5];exact o6
theorem unT_only {s:List UInt8} (k:Nat):∀ (a b:Nat) (T0 T:List ByteArray),a≤s.length→unT s k a T0=.inr (b,T)→∃ T1,T=T0 ++ T1∧T1.length=k∧s.drop a=textsB T1 ++ s.drop b∧b≤s.length∧a≤b:=by
 induction k with
 | zero =>
   intro a b T0 T ha h0
   rw [unT] at h0
   simp only [Sum.inr.injEq,Prod.mk.injEq] at h0
   obtain ⟨rfl,rfl⟩:=h0
   exact ⟨[],by simp,rfl,rfl,ha,Nat.le_refl _⟩
 | succ k ih =>
   intro a b T0 T ha h0
   obtain ⟨t,n,e,hg⟩:∃ t n e,getS (s.drop a)=(t,n,e):=⟨_,_,_,rfl⟩
   by_cases he:e=0
   · subst he
     obtain ⟨w1,w2,w3,w4⟩:=wspan_only hg
     rw [List.length_drop] at w2
     rw [unT_ok hg] at h0
     obtain ⟨T1,rfl,g2,g3,g4,g5⟩:=ih _ _ _ _ (by omega) h0
     refine ⟨⟨t.toArray⟩ :: T1,by simp,by simp [g2],?_,g4,by omega⟩
     rw [textsB_cons,List.append_assoc,←g3]
     exact drop_put w4
   · rw [unT_bad hg he] at h0;cases h0
theorem okRow_keys {h:List Ent} {T:List ByteArray} (l:List Wr):∀ (ahead:Int) (N:List Nat),okRow h T ahead l N→outG T (N.map Int.ofNat)=keysW l:=by
 induction l with
 | nil=>intro ahead N hN;have hN:N=[]:=hN;subst hN;rfl
 | cons x r ih =>
   intro ahead N hN
   cases N with
   | nil=>exact absurd hN id
   | cons n N =>
     have h2:=ih _ _ hN.2
     unfold outG keysW at h2 ⊢
     rw [List.map_cons,List.map_cons,List.map_cons,h2]
     have h4:=hN.1.2.2.2
     congr 1
     show T.getD (Int.ofNat n).toNat ByteArray.empty=x.key
     rw [List.getD_eq_getElem?_getD,show (Int.ofNat n).toNat=n from rfl,h4];rfl
theorem unb_only {s:List UInt8} {f h:List Ent} {l:List Wr} (h0:unbF s=.inr (f,h,l)):rightB f h l∧bodyL f h l=s∧s.length≤20000:=by
 by_cases hl:20000 < s.length
 · rw [unb_long hl] at h0;cases h0
 obtain ⟨e1,n,f',h1⟩:∃ e n f',vreadF s=(e,n,f'):=⟨_,_,_,rfl⟩
 have z1:e1=0:=by
   by_cases z:e1=0
   · exact z
   · rw [unb_from hl h1 z] at h0;cases h0
 subst z1
 obtain ⟨r1,n1,n2,w1⟩:=vread_only h1
 obtain ⟨e2,m,h',h2⟩:∃ e m h',vreadF (s.drop n)=(e,m,h'):=⟨_,_,_,rfl⟩
 have z2:e2=0:=by
   by_cases z:e2=0
   · exact z
   · rw [unb_have hl h1 h2 z] at h0;cases h0
 subst z2
 obtain ⟨r2,m1,m2,w2⟩:=vread_only h2
 rw [List.length_drop] at m2
 rcases intL_cases (s.drop (n + m)) 60 with ⟨e,h3,he,_⟩ | ⟨k,j,h3,hk,_,_,hjl,hp3⟩
 · rw [unb_texts hl h1 h2 h3 he] at h0;cases h0
 rw [List.length_drop] at hjl
 match h4:unT s k (n + m + j) [] with
 | .inl (e,p)=>rw [unb_text hl h1 h2 h3 h4] at h0;cases h0
 | .inr (b,T) =>
   obtain ⟨T1,hT1,hTl,q4,hb1,hb2⟩:=unT_only k _ _ _ _ (by omega) h4
   rw [List.nil_append] at hT1
   subst hT1
   rcases intL_cases (s.drop b) 60 with ⟨e,h5,he,_⟩ | ⟨k2,j2,h5,hk2,_,_,hj2l,hp5⟩
   · rw [unb_writes hl h1 h2 h3 h4 h5 he] at h0;cases h0
   rw [List.length_drop] at hj2l
   match h6:unW s h' T k2 (b + j2) 0 [] [] with
   | .inl (e,p)=>rw [unb_write hl h1 h2 h3 h4 h5 h6] at h0;cases h0
   | .inr (c,W,N) =>
     obtain ⟨W1,N1,hW1,hN1,hWl,hrow,q6,hc1,hc2⟩:=unW_only r2 k2 _ _ _ _ _ _ _ (by omega) h6
     rw [List.nil_append] at hW1 hN1
     subst hW1
     subst hN1
     rw [unb_rest hl h1 h2 h3 h4 h5 h6] at h0
     by_cases z3:c < s.length
     · rw [if_pos z3] at h0;cases h0
     rw [if_neg z3] at h0
     have z4:(listF T (N.map Int.ofNat)).2.1=0:=by
       by_cases z:(listF T (N.map Int.ofNat)).2.1=0
       · exact z
       · rw [if_pos z] at h0;cases h0
     rw [if_neg (by simpa using z4)] at h0
     have z5:(batF f' h' W).1=0:=by
       by_cases z:(batF f' h' W).1=0
       · exact z
       · rw [if_pos z] at h0;cases h0
     rw [if_neg (by simpa using z5)] at h0
     simp only [Sum.inr.injEq,Prod.mk.injEq] at h0
     obtain ⟨rfl,rfl,rfl⟩:=h0
     obtain ⟨_,lt,la⟩:=listF_ok z4
     rw [okRow_keys _ _ _ hrow] at lt la
     have la2:atK [] (keysW W)=N:=by
       have hinj:∀ (x y:List Nat),x.map Int.ofNat=y.map Int.ofNat→x=y:=fun x y hxy=>(List.map_inj_right (fun a b hab=>Int.ofNat.inj hab)).1 hxy
       exact hinj _ _ la
     refine ⟨z5,?_,by omega⟩
     have hc:s.drop c=[]:=List.drop_of_length_le (by omega)
     have e1:=drop_put (a:=0) (s:=s) (k:=n) (p:=vwriteL f') (by rw [List.drop_zero];exact w1)
     rw [List.drop_zero,Nat.zero_add] at e1
     have e2:=drop_put w2
     have e3:=drop_put hp3
     have e5:=drop_put hp5
     rw [hc,List.append_nil] at q6
     unfold bodyL
     rw [lt,la2,hTl,hWl]
     rw [e1,e2,e3,q4,e5,q6]
     simp
end Go.Proofs.YtjkbmfpomgcblaaGreatDoor
namespace Go.Proofs.YtjkbmfpomgcblaaGreatDoor
open Go.RowKit
def VReadIs (w:World) (s:List UInt8) (e:Ending) (w':World):Prop :=
 ∃ v,e=.returned (.tuple #[v,.int .i64 ((vreadF s).2.1:Nat),noV (vreadF s).1])∧ownsE w' w.heap.size v (vreadF s).2.2∧Below w.heap.size w w'
theorem vread_is_bad {w:World} {s:List UInt8} {e:Nat} (h:vreadF s=(e,0,[])) (he:e≠0) (w':World) (hb:Below w.heap.size w w'):VReadIs w s (.returned (.tuple #[.slice none 0 0,.int .i64 0,.iface 44 (.int .i64 (e:Nat))])) w':=by
 refine ⟨.slice none 0 0,?_,?_,hb⟩
 · rw [h];simp only;rw [noV_e he];rfl
 · rw [h];exact ownsE_nil _ _
theorem vread_is_ok {w:World} {s:List UInt8} {n:Nat} {l:List Ent} (h:vreadF s=(0,n,l)) (v:Value) (w':World) (ho:ownsE w' w.heap.size v l) (hb:Below w.heap.size w w'):VReadIs w s (.returned (.tuple #[v,.int .i64 (n:Nat),.nilIface])) w':=by
 refine ⟨v,?_,?_,hb⟩
 · rw [h];rfl
 · rw [h];exact ho
theorem vgetR_bad {w:World} {x:Nat ⊕ (List Ent×Nat)} {er:Nat} (h:x=.inl er) {e:Ending} {w':World} (hg:VGetIs w x e w'):e=.returned (.tuple #[.slice none 0 0,.int .i64 0,.iface 44 (.int .i64 (er:Nat))])∧Below w.heap.size w w':=by
 rw [h] at hg;exact hg
theorem vgetR_good {w:World} {x:Nat ⊕ (List Ent×Nat)} {run:List Ent} {k:Nat} (h:x=.inr (run,k)) {e:Ending} {w':World} (hg:VGetIs w x e w'):∃ v,e=.returned (.tuple #[v,.int .i64 (k:Nat),.nilIface])∧ownsE w' w.heap.size v run∧Below w.heap.size w w':=by
 rw [h] at hg;exact hg
theorem getR_err {s:List UInt8} {used e:Nat} {least:Int} {acc:List Ent} (h:getR s used least acc=.inl e):e≠0:=by
 have htm:∀ (k:Nat) (s:List UInt8) (used:Nat) (r:Int) (acc:List Ent),tmA k s used r acc=.inl e→e≠0:=by
   intro k
   induction k with
   | zero=>intro s used r acc h;cases h
   | succ k ih =>
     intro s used r acc h
     rcases intL_cases s 1099511627776 with ⟨e',hi,he,_⟩ | ⟨t,j,hi,_⟩
     · rw [tmA_bad hi he] at h;injection h with h;subst h;exact he
     · rw [tmA_ok hi] at h;exact ih _ _ _ _ h
 rcases intL_cases s 200 with ⟨e',hi,he,_⟩ | ⟨g,j,hi,_⟩
 · rw [getR_gap hi he] at h;injection h with h;subst h;exact he
 · rcases intL_cases (s.drop j) 16 with ⟨e',hi2,he,_⟩ | ⟨c,i,hi2,_⟩
   · rw [getR_many hi hi2 he] at h;injection h with h;subst h;exact he
   · rw [getR_ok hi hi2] at h;exact htm _ _ _ _ _ h
theorem consec_bd {l:List Ent}:∀ {r:Int},consec r l→∀ e∈l,r≤e.rep∧e.rep < r + l.length:=by
 induction l with
 | nil=>intro r _ e h;cases h
 | cons d t ih =>
   intro r h e he
   rw [List.length_cons]
   rcases List.mem_cons.1 he with rfl | he
   · have:=h.1;omega
   · have:=ih h.2 e he;omega
set_option maxRecDepth 100000 in
set_option maxHeartbeats 4000000 in
theorem vread_any (s:ByteArray) (w:World) (hs:s.size≤1000000) (hg:errT w) :
   Calls Tryz.prog 157 #[.string s] w (VReadIs w s.data.toList):=by
 have HG:=Lib.hid hg
 have hsl:s.data.toList.length=s.size:=(size_data s).symm
 have HSL:=Lib.hid hsl
 have HM0:Hid (s.size≤maxLen):=Lib.hid (show s.size≤maxLen by unfold maxLen;omega)
 clear hsl hg
 rcases intL_cases s.data.toList 16 with ⟨e,hi,he,_⟩ | ⟨R,j,hi,hR,hj1,hj2,hj3,_⟩
 · have HI:=Lib.hid hi
   have HV:=Lib.hid (vread_few hi he)
   have HNE:=Lib.hid he
   clear hi he
   go_enter Tryz.func157,Tryz.ntmps157
   go_wp2_with fail
   refine (vint_bad _ 16 _ HM0.out (by decide) (by decide) e HI.out HNE.out).mono ?_
   rintro r w' ⟨rfl,rfl⟩
   go_wp2
   go_ret3
   exact vread_is_bad HV.out HNE.out _ (Below.refl _ _)
 · have HI:=Lib.hid hi
   rw [HSL.out] at hj3
   have hR16:R≤16:=by omega
   clear hi
   go_enter Tryz.func157,Tryz.ntmps157
   go_wp2_with fail
   refine (vint_ok _ 16 _ HM0.out (by decide) (by decide) R j HI.out).mono ?_
   rintro r w' ⟨rfl,rfl⟩
   go_wp2
   go_loopw [6,8,9,24] (fun av lv bv i wr=>∃ (k a:Nat) (least:Int) (acc:List Ent),k≤R∧i=.int .i64 k∧av=.int .i64 a∧a≤s.size∧bv=.int .i64 least∧0≤least∧least≤300 * (k:Int)∧acc.length≤17 * k∧rdA R (s.data.toList.drop j) j 0 []=rdA (R - k) (s.data.toList.drop a) a least acc∧ownsE wr w.heap.size lv acc∧Below w.heap.size w wr) (fun _ _ _ i _=>R - (intOf i).toNat)
   case atStart=>exact ⟨0,j,0,[],by omega,rfl,rfl,hj3,rfl,by omega,by omega,by simp,rfl,ownsE_nil _ _,Below.refl _ _⟩
   case round =>
     obtain ⟨k,a,least,acc,hk,rfl,rfl,has,rfl,hl0,hl3,hal,heq,ho,hb⟩:=hrel
     have HEQ:=Lib.hid heq
     have HO:=Lib.hid ho
     have HB:=Lib.hid hb
     have hzr:=hb.size
     have HAL:=Lib.hid hal
     have HE:=Lib.hid (ext_dropV s a)
     have hxs:(s.extract a s.size).size≤1000000:=by rw [ByteArray.size_extract];omega
     have HXS:=Lib.hid hxs
     have e3:(0:Int)≤(a:Int):=by omega
     have e4:(a:Int)≤(s.size:Int):=by omega
     clear heq ho hb hal hxs
     by_cases hlt:k < R
     · have hlt':(k:Int) < (R:Int):=by omega
       obtain ⟨c',hc'⟩:∃ c',R - k=c' + 1:=⟨R - k - 1,by omega⟩
       match hgr:getR (s.data.toList.drop a) 0 least [] with
       | .inl e =>
         have HGR:Hid (getR (s.extract a s.size).data.toList 0 least []=.inl e):=Lib.hid (show getR (s.extract a s.size).data.toList 0 least []=.inl e by rw [HE.out];exact hgr)
         have HV:=Lib.hid (vread_bad HI.out (show rdA R (s.data.toList.drop j) j 0 []=.inl e by rw [HEQ.out,hc',rdA_bad hgr]))
         have HNE:=Lib.hid (getR_err hgr)
         clear hgr hc'
         go_wp2_with fail
         refine (vget_any (s.extract a s.size) least _ HXS.out hl0 (by omega)).mono ?_
         intro r w1 hgi
         obtain ⟨rfl,hb1⟩:=vgetR_bad HGR.out hgi
         have HB1:Hid (Below w.heap.size w w1):=HB.out.trans (hb1.mono hzr)
         clear hgi hb1
         go_wp2
         go_ret3
         exact vread_is_bad HV.out HNE.out _ HB1.out
       | .inr (run,i) =>
         have HGR:Hid (getR (s.extract a s.size).data.toList 0 least []=.inr (run,i)):=Lib.hid (show getR (s.extract a s.size).data.toList 0 least []=.inr (run,i) by rw [HE.out];exact hgr)
         obtain ⟨run',hr',g1,g2,g3,g4,g5,_,g6,_,_⟩:=getR_only hgr
         rw [List.nil_append] at hr'
         subst hr'
         rw [List.length_drop,HSL.out] at g6
         have hpos:0 < run.length:=List.length_pos_iff.2 g1
         have hlast:=consec_last g5 g1
         have hbd:=consec_bd g5
         have HRB:Hid (∀ e∈run,0≤e.rep∧e.rep≤1000000):=Lib.hid (show ∀ e∈run,0≤e.rep∧e.rep≤1000000 from fun e he=>by have:=hbd e he;omega)
         have HNIL:=Lib.hid g1
         obtain ⟨lr,hlr⟩:∃ x,(run.getLastD ⟨0,0⟩).rep=x:=⟨_,rfl⟩
         have HLR:=Lib.hid hlr
         have HST:Hid (rdA R (s.data.toList.drop j) j 0 []=rdA (R - (k + 1)) (s.data.toList.drop (a + i)) (a + i) (lr + 2) (acc ++ run)):=Lib.hid (show rdA R (s.data.toList.drop j) j 0 []=rdA (R - (k + 1)) (s.data.toList.drop (a + i)) (a + i) (lr + 2) (acc ++ run) by
           rw [HEQ.out,hc',rdA_ok hgr,List.drop_drop,hlr,show R - (k + 1)=c' by omega])
         rw [hlr] at hlast
         have HLB:Hid (0≤lr + 2∧lr + 2≤300 * ((k + 1:Nat):Int)):=Lib.hid (show 0≤lr + 2∧lr + 2≤300 * ((k + 1:Nat):Int) by omega)
         have HRL:Hid (run.length≤17):=Lib.hid g2
         have HAI:Hid (a + i≤s.size):=Lib.hid (show a + i≤s.size by omega)
         have hib:(i:Int)≤1000000:=by omega
         clear hgr hc' g1 g2 g3 g4 g5 g6 hbd hlr hlast
         go_wp2_with fail
         refine (vget_any (s.extract a s.size) least _ HXS.out hl0 (by omega)).mono ?_
         intro r w1 hgi
         obtain ⟨v,rfl,how,hb1⟩:=vgetR_good HGR.out hgi
         have HOW:=Lib.hid how
         have HB1:Hid (Below w.heap.size w w1):=HB.out.trans (hb1.mono hzr)
         have HO1:=Lib.hid (HO.out.below hb1)
         have HZ:Hid (∀ x,Value.ownBlock u8=some x→x < wr.heap.size):=Lib.hid (fun x hx=>(HO.out.lt x hx).2)
         rcases how.form with ⟨_,hn⟩ | ⟨gB,cap,rfl,hgb,hgl,hcs⟩
         · rw [hn] at hpos;simp at hpos
         · have HCS:=Lib.hid hcs
           clear hgi hb1 how hcs
           go_wp2_with (at_builtin;refine wpList_append_ents rfl _ _ rfl w.heap.size _ acc rfl HO1.out gB 0 cap run.length rfl run rfl (fun j u hj=>by rw [Nat.zero_add];exact HCS.out j u hj) hpos ?c1 ?c2 ?_)
           case c1=>have:=HAL.out;have:=HRL.out;omega
           case c2=>have:=HB1.out.size;omega
           · intro g3 cap3 w3 ho3 hg3
             have HO3:=Lib.hid ho3
             have HB3:Hid (Below w.heap.size w w3):=HB1.out.grown hg3 HB1.out.size (fun k hk=>(HO1.out.lt k hk).1)
             have HRW:Hid (IsEnts w3 (.slice (some ⟨gB,0,none⟩) run.length cap) run):=Lib.hid (World.ownsRow.kept HOW.out hg3 (.inr (fun e=>by have:=HZ.out gB e.symm;omega)) |> fun h=>(show ownsE w3 wr.heap.size _ run from h).is)
             have HAL3:Hid ((acc ++ run).length≤17 * (k + 1)):=Lib.hid (show (acc ++ run).length≤17 * (k + 1) by have:=HAL.out;have:=HRL.out;rw [List.length_append];omega)
             obtain ⟨q,hq⟩:∃ q,run.length=q:=⟨_,rfl⟩
             rw [hq] at HRW hpos ⊢
             have HQ:=Lib.hid hq
             clear ho3 hg3 hq
             go_wp2_with fail
             refine (behind_any _ run _ HRW.out HNIL.out (by have:=HRL.out;omega) HRB.out).mono ?_
             rintro r w' ⟨rfl,rfl⟩
             rw [HLR.out]
             go_wp2
             go_roundw
             case rel=>exact ⟨k + 1,a + i,lr + 2,acc ++ run,by omega,by go_num,by go_num,HAI.out,rfl,HLB.out.1,HLB.out.2,HAL3.out,HST.out,by have h:=HO3.out;rw [HQ.out] at h;exact h,HB3.out⟩
             case measure=>simp [intOf];omega
     · have hkr:k=R:=by omega
       have HRR:Hid (rdA R (s.data.toList.drop j) j 0 []=.inr (acc,a)):=Lib.hid (show rdA R (s.data.toList.drop j) j 0 []=.inr (acc,a) by rw [HEQ.out,hkr,Nat.sub_self];rfl)
       have hlt':(R:Int)≤(k:Int):=by omega
       have hal9:acc.length≤9223372036854775807:=by have:=HAL.out;omega
       have HI9:=Lib.hid hal9
       clear hkr hal9
       by_cases h0:(vrightF acc).1=0
       · have HV:=Lib.hid (vread_ok HI.out HRR.out h0)
         have H0:=Lib.hid h0
         clear h0
         go_wp2_with fail
         refine (vbare_any _ acc _ HO.out.is HI9.out (HG.out.below HB.out)).mono ?_
         rintro r w1 ⟨rfl,hb1⟩
         rw [H0.out,noV_0]
         have HB1:Hid (Below w.heap.size w w1):=HB.out.trans (hb1.mono hzr)
         have HO1:=Lib.hid (HO.out.below hb1)
         clear hb1
         go_wp2
         go_ret3
         exact vread_is_ok HV.out _ _ HO1.out HB1.out
       · have HV:=Lib.hid (vread_wrong HI.out HRR.out h0)
         have HQ:=Lib.hid (noV_e h0)
         have H0:=Lib.hid h0
         clear h0
         go_wp2_with fail
         refine (vbare_any _ acc _ HO.out.is HI9.out (HG.out.below HB.out)).mono ?_
         rintro r w1 ⟨rfl,hb1⟩
         rw [HQ.out]
         have HB1:Hid (Below w.heap.size w w1):=HB.out.trans (hb1.mono hzr)
         clear hb1
         go_wp2
         go_ret3
         exact vread_is_bad HV.out H0.out _ HB1.out
end Go.Proofs.YtjkbmfpomgcblaaGreatDoor
