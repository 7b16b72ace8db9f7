import Derived.Test.YtjkbmfpomgcblaaGreatDoorKr06
namespace Go.Proofs.YtjkbmfpomgcblaaGreatDoor
open Go.RowKit
set_option maxRecDepth 100000 in
set_option maxHeartbeats 1000000 in
theorem requal_ents (v1 v2:Value) (l m:List Ent) (w:World) (h1:IsEnts w v1 l) (h2:IsEnts w v2 m) (hl:l.length≤9223372036854775807) (hm:m.length≤9223372036854775807) :
   Calls Tryz.prog 82 #[v1,v2] w fun e w'=>e=.returned (.bool (decide (l=m)))∧∃ q,w'=w.drewN q:=by
 obtain ⟨a1,c1,rfl,f1⟩:=h1.form
 obtain ⟨a2,c2,rfl,f2⟩:=h2.form
 have F1:=Lib.hid f1
 have F2:=Lib.hid f2
 obtain ⟨n,hn⟩:∃ n,n=l.length:=⟨_,rfl⟩
 obtain ⟨n2,hn2⟩:∃ n,n=m.length:=⟨_,rfl⟩
 rw [←hn] at hl ⊢
 rw [←hn2] at hm ⊢
 have HN:=Lib.hid hn
 have HN2:=Lib.hid hn2
 clear h1 h2 f1 f2 hn hn2
 by_cases hne:n=n2
 · subst hne
   go_enter Tryz.func82,Tryz.ntmps82
   go_wp2
   go_loopw [13] (fun i wr=>∃ k q:Nat,k≤n∧i=.int .i64 k∧l.take k=m.take k∧wr=w.drewN q) (fun i _=>n - (intOf i).toNat)
   case atStart=>exact ⟨0,0,by omega,rfl,rfl,rfl⟩
   case round =>
     obtain ⟨k,q,hk,rfl,htk,rfl⟩:=hrel
     have HTK:=Lib.hid htk
     clear htk
     by_cases hlt:k < n
     · obtain ⟨t, ht⟩ : ∃ t, l[k]? = some t := ⟨l[k]'(by have := HN.out; omega), List.getElem?_eq_getElem _⟩
       obtain ⟨u, hu⟩ : ∃ u, m[k]? = some u := ⟨m[k]'(by have := HN2.out; omega), List.getElem?_eq_getElem _⟩
       obtain ⟨b1,o1,rfl,_,p0,p1⟩:=F1.out k t ht
       obtain ⟨b2,o2,rfl,_,q0,q1⟩:=F2.out k u hu
       have HTT:=Lib.hid ht
       have HUU:=Lib.hid hu
       clear ht hu
       obtain ⟨r1,t1⟩:=t
       obtain ⟨r2,t2⟩:=u
       simp only at p0 p1 q0 q1
       by_cases hr:r1=r2
       · by_cases ht:t1=t2
         · subst hr ht
           have HST:=Lib.hid (eq_step HTK.out HTT.out HUU.out rfl)
           go_wp2
           go_quiet (fail)
           go_wp2
           go_roundw
           case rel=>exact ⟨k + 1,_,by omega,by go_num,HST.out,rfl⟩
           case measure=>simp [intOf];omega
         · subst hr
           have HE:Hid (decide (l=m)=false):=Lib.hid (show decide (l=m)=false by
             rw [decide_eq_false_iff_not];rintro rfl
             have:=HTT.out.symm.trans HUU.out
             simp at this;exact ht this)
           have x1:(t1 == t2)=false:=by simpa using ht
           have x2:(t1 != t2)=true:=by simpa using ht
           go_wp2
           go_quiet (fail)
           go_wp2
           go_ret
           exact ⟨by rw [HE.out];rfl,by first | exact ⟨_,rfl⟩ | exact ⟨_,by rw [World.drewN_drewN]⟩⟩
       · have HE : Hid (decide (l = m) = false) := Lib.hid (show decide (l = m) = false by
           rw [decide_eq_false_iff_not];rintro rfl
           have:=HTT.out.symm.trans HUU.out
           simp at this;exact hr this.1)
         have x1:(r1 == r2)=false:=by simpa using hr
         have x2:(r1 != r2)=true:=by simpa using hr
         go_wp2
         go_quiet (fail)
         go_wp2
         go_ret
         exact ⟨by rw [HE.out];rfl,by first | exact ⟨_,rfl⟩ | exact ⟨_,by rw [World.drewN_drewN]⟩⟩
     · have HE : Hid (decide (l = m) = true) := Lib.hid (show decide (l = m) = true by
         rw [decide_eq_true_eq]
         have h:=HTK.out
         rw [List.take_of_length_le (by have:=HN.out;omega),List.take_of_length_le (by have:=HN2.out;omega)] at h
         exact h)
       go_wp2
       go_ret
       exact ⟨by rw [HE.out];rfl,by first | exact ⟨_,rfl⟩ | exact ⟨_,by rw [World.drewN_drewN]⟩⟩
 · have HE : Hid (decide (l = m) = false) := Lib.hid (show decide (l = m) = false by
     rw [decide_eq_false_iff_not];rintro rfl;exact hne (HN.out.trans HN2.out.symm))
   have x1:((n:Int) == (n2:Int))=false:=by simp;omega
   have x2:((n:Int) != (n2:Int))=true:=by simp;omega
   rw [HE.out]
   go_enter Tryz.func82,Tryz.ntmps82
   go_wp2
   go_ret
   exact ⟨rfl,0,rfl⟩
theorem requale_as (v1 v2:Value) (l m:List Ent) (c:Bool) (w:World) (h1:IsEnts w v1 l) (h2:IsEnts w v2 m) (hl:l.length≤9223372036854775807) (hm:m.length≤9223372036854775807) (hc:decide (l=m)=c) :
   Calls Tryz.prog 82 #[v1,v2] w fun e w'=>e=.returned (.bool c)∧∃ q,w'=w.drewN q :=
 (requal_ents v1 v2 l m w h1 h2 hl hm).mono fun _ _ ⟨h1,h2⟩=>⟨by rw [h1,hc],h2⟩
set_option maxRecDepth 100000 in
set_option maxHeartbeats 4000000 in
theorem requal_wrs (v1 v2:Value) (l m:List Wr) (w:World) (h1:IsWrs w v1 l) (h2:IsWrs w v2 m) (hl:l.length≤9223372036854775807) (hm:m.length≤9223372036854775807) :
   Calls Tryz.prog 83 #[v1,v2] w fun e w'=>e=.returned (.bool (decide (l=m)))∧∃ q,w'=w.drewN q:=by
 obtain ⟨a1,c1,rfl,f1⟩:=h1.form
 obtain ⟨a2,c2,rfl,f2⟩:=h2.form
 have F1:=Lib.hid f1
 have F2:=Lib.hid f2
 obtain ⟨n,hn⟩:∃ n,n=l.length:=⟨_,rfl⟩
 obtain ⟨n2,hn2⟩:∃ n,n=m.length:=⟨_,rfl⟩
 rw [←hn] at hl ⊢
 rw [←hn2] at hm ⊢
 have HN:=Lib.hid hn
 have HN2:=Lib.hid hn2
 clear h1 h2 f1 f2 hn hn2
 by_cases hne:n=n2
 · subst hne
   go_enter Tryz.func83,Tryz.ntmps83
   go_wp2
   go_loopw [13] (fun i wr=>∃ k q:Nat,k≤n∧i=.int .i64 k∧l.take k=m.take k∧wr=w.drewN q) (fun i _=>n - (intOf i).toNat)
   case atStart=>exact ⟨0,0,by omega,rfl,rfl,rfl⟩
   case round =>
     obtain ⟨k,q,hk,rfl,htk,rfl⟩:=hrel
     have HTK:=Lib.hid htk
     clear htk
     by_cases hlt:k < n
     · obtain ⟨t, ht⟩ : ∃ t, l[k]? = some t := ⟨l[k]'(by have := HN.out; omega), List.getElem?_eq_getElem _⟩
       obtain ⟨u, hu⟩ : ∃ u, m[k]? = some u := ⟨m[k]'(by have := HN2.out; omega), List.getElem?_eq_getElem _⟩
       obtain ⟨b1,o1,rfl,_,p0,p1,p2,p3,p4,p5⟩:=F1.out k t ht
       obtain ⟨b2,o2,rfl,_,q0,q1,q2,q3,q4,q5⟩:=F2.out k u hu
       have HTT:=Lib.hid ht
       have HUU:=Lib.hid hu
       clear ht hu
       obtain ⟨T1,R1,K1,key1,val1,N1⟩:=t
       obtain ⟨T2,R2,K2,key2,val2,N2⟩:=u
       simp only at p0 p1 p2 p3 p4 p5 q0 q1 q2 q3 q4 q5
       by_cases he0:T1=T2
       · subst he0
         by_cases he1:R1=R2
         · subst he1
           by_cases he2:K1=K2
           · subst he2
             by_cases he3:key1=key2
             · subst he3
               by_cases he4:val1=val2
               · subst he4
                 by_cases he5:N1=N2
                 · subst he5
                   have HST:=Lib.hid (wq_step HTK.out HTT.out HUU.out rfl)
                   go_wp2
                   go_quiet (fail)
                   go_wp2
                   go_roundw
                   case rel=>exact ⟨k + 1,_,by omega,by go_num,HST.out,rfl⟩
                   case measure=>simp [intOf];omega
                 · have HE : Hid (decide (l = m) = false) := Lib.hid (show decide (l = m) = false by
                     rw [decide_eq_false_iff_not];rintro rfl
                     have:=HTT.out.symm.trans HUU.out
                     simp only [Option.some.injEq,Wr.mk.injEq] at this
                     exact he5 this.2.2.2.2.2)
                   have x1:(N1 == N2)=false:=by simpa using he5
                   have x2:(N1 != N2)=true:=by simpa using he5
                   go_wp2
                   go_quiet (fail)
                   go_wp2
                   go_ret
                   exact ⟨by rw [HE.out];rfl,by first | exact ⟨_,rfl⟩ | exact ⟨_,by rw [World.drewN_drewN]⟩⟩
               · have HE : Hid (decide (l = m) = false) := Lib.hid (show decide (l = m) = false by
                   rw [decide_eq_false_iff_not];rintro rfl
                   have:=HTT.out.symm.trans HUU.out
                   simp only [Option.some.injEq,Wr.mk.injEq] at this
                   exact he4 this.2.2.2.2.1)
                 have x1:(val1.toList == val2.toList)=false:=by rw [ByteArray.toList_eq,ByteArray.toList_eq,beq_eq_false_iff_ne];intro e9;exact he4 (bytes_ext e9)
                 have x2:(val1.toList != val2.toList)=true:=by rw [bne,x1];rfl
                 go_wp2
                 go_quiet (fail)
                 go_wp2
                 go_ret
                 exact ⟨by rw [HE.out];rfl,by first | exact ⟨_,rfl⟩ | exact ⟨_,by rw [World.drewN_drewN]⟩⟩
             · have HE : Hid (decide (l = m) = false) := Lib.hid (show decide (l = m) = false by
                 rw [decide_eq_false_iff_not];rintro rfl
                 have:=HTT.out.symm.trans HUU.out
                 simp only [Option.some.injEq,Wr.mk.injEq] at this
                 exact he3 this.2.2.2.1)
               have x1:(key1.toList == key2.toList)=false:=by rw [ByteArray.toList_eq,ByteArray.toList_eq,beq_eq_false_iff_ne];intro e9;exact he3 (bytes_ext e9)
               have x2:(key1.toList != key2.toList)=true:=by rw [bne,x1];rfl
               go_wp2
               go_quiet (fail)
               go_wp2
               go_ret
               exact ⟨by rw [HE.out];rfl,by first | exact ⟨_,rfl⟩ | exact ⟨_,by rw [World.drewN_drewN]⟩⟩
           · have HE : Hid (decide (l = m) = false) := Lib.hid (show decide (l = m) = false by
               rw [decide_eq_false_iff_not];rintro rfl
               have:=HTT.out.symm.trans HUU.out
               simp only [Option.some.injEq,Wr.mk.injEq] at this
               exact he2 this.2.2.1)
             have x1:(K1 == K2)=false:=by simpa using he2
             have x2:(K1 != K2)=true:=by simpa using he2
             go_wp2
             go_quiet (fail)
             go_wp2
             go_ret
             exact ⟨by rw [HE.out];rfl,by first | exact ⟨_,rfl⟩ | exact ⟨_,by rw [World.drewN_drewN]⟩⟩
         · have HE : Hid (decide (l = m) = false) := Lib.hid (show decide (l = m) = false by
             rw [decide_eq_false_iff_not];rintro rfl
             have:=HTT.out.symm.trans HUU.out
             simp only [Option.some.injEq,Wr.mk.injEq] at this
             exact he1 this.2.1)
           have x1:(R1 == R2)=false:=by simpa using he1
           have x2:(R1 != R2)=true:=by simpa using he1
           go_wp2
           go_quiet (fail)
           go_wp2
           go_ret
           exact ⟨by rw [HE.out];rfl,by first | exact ⟨_,rfl⟩ | exact ⟨_,by rw [World.drewN_drewN]⟩⟩
       · have HE : Hid (decide (l = m) = false) := Lib.hid (show decide (l = m) = false by
           rw [decide_eq_false_iff_not];rintro rfl
           have:=HTT.out.symm.trans HUU.out
           simp only [Option.some.injEq,Wr.mk.injEq] at this
           exact he0 this.1)
         have x1:(T1 == T2)=false:=by simpa using he0
         have x2:(T1 != T2)=true:=by simpa using he0
         go_wp2
         go_quiet (fail)
         go_wp2
         go_ret
         exact ⟨by rw [HE.out];rfl,by first | exact ⟨_,rfl⟩ | exact ⟨_,by rw [World.drewN_drewN]⟩⟩
     · have HE : Hid (decide (l = m) = true) := Lib.hid (show decide (l = m) = true by
         rw [decide_eq_true_eq]
         have h:=HTK.out
         rw [List.take_of_length_le (by have:=HN.out;omega),List.take_of_length_le (by have:=HN2.out;omega)] at h
         exact h)
       go_wp2
       go_ret
       exact ⟨by rw [HE.out];rfl,by first | exact ⟨_,rfl⟩ | exact ⟨_,by rw [World.drewN_drewN]⟩⟩
 · have HE : Hid (decide (l = m) = false) := Lib.hid (show decide (l = m) = false by
     rw [decide_eq_false_iff_not];rintro rfl;exact hne (HN.out.trans HN2.out.symm))
   have x1:((n:Int) == (n2:Int))=false:=by simp;omega
   have x2:((n:Int) != (n2:Int))=true:=by simp;omega
   rw [HE.out]
   go_enter Tryz.func83,Tryz.ntmps83
   go_wp2
   go_ret
   exact ⟨rfl,0,rfl⟩
theorem requalw_as (v1 v2:Value) (l m:List Wr) (c:Bool) (w:World) (h1:IsWrs w v1 l) (h2:IsWrs w v2 m) (hl:l.length≤9223372036854775807) (hm:m.length≤9223372036854775807) (hc:decide (l=m)=c) :
   Calls Tryz.prog 83 #[v1,v2] w fun e w'=>e=.returned (.bool c)∧∃ q,w'=w.drewN q :=
 (requal_wrs v1 v2 l m w h1 h2 hl hm).mono fun _ _ ⟨h1,h2⟩=>⟨by rw [h1,hc],h2⟩
end Go.Proofs.YtjkbmfpomgcblaaGreatDoor
namespace Go.Proofs.YtjkbmfpomgcblaaGreatDoor
open Go.RowKit
theorem pre_two (s:List UInt8):Lib.hasPrefix s [80,84]=true↔s.take 2=[80,84]:=by
 unfold Lib.hasPrefix
 rw [List.isPrefixOf_iff_prefix]
 constructor
 · rintro ⟨r,rfl⟩;rfl
 · intro h;exact ⟨s.drop 2,by rw [←h,List.take_append_drop]⟩
theorem pre_not {s:List UInt8} (h:s.take 2≠[80,84]):Lib.hasPrefix s [80,84]=false:=by
 cases hb:Lib.hasPrefix s [80,84] with
 | false=>rfl
 | true=>exact absurd ((pre_two s).1 hb) h
def opnV (r:Nat×List UInt8×Nat):Value:=.tuple #[.int .i64 (r.1:Nat),.string ⟨r.2.1.toArray⟩,errC r.2.2]
theorem errC_ne {e:Nat} (h:e≠0):errC e=.iface 44 (.int .i64 e):=by unfold errC;rw [if_neg h]
theorem errC_zero:errC 0=.nilIface:=rfl
set_option maxRecDepth 100000 in
set_option maxHeartbeats 1200000 in
theorem fopen_any (s:ByteArray) (w:World) (hs:s.size≤140737488351232) :
   Calls Tryz.prog 50 #[.string s] w fun e w'=>e=.returned (opnV (opnF s.data.toList))∧Below w.heap.size w w':=by
 have hl:s.size=s.data.toList.length:=size_data s
 by_cases h8:s.size < 8
 · have h:opnF s.data.toList=(0,[],7):=opn_few (by rw [←hl];exact h8)
   rw [h]
   have h8i:(s.size:Int) < 8:=by omega
   clear h hl
   go_enter Tryz.func50,Tryz.ntmps50
   go_wp2
   go_ret3
   exact ⟨rfl,Below.refl _ _⟩
 · have h8l:¬ s.data.toList.length < 8:=by rw [←hl];exact h8
   have h8i:8≤(s.size:Int):=by omega
   by_cases hp:s.data.toList.take 2=[80,84]
   · have HPB:Hid (Lib.hasPrefix s.data.toList [80,84]=true):=Lib.hid ((pre_two _).2 hp)
     have hsz:2 < s.size:=by omega
     obtain ⟨c, hc⟩ : ∃ c : UInt8, s[2]'hsz = c := ⟨_, rfl⟩
     have hwr:wrap64 (c.toNat:Int)=(c.toNat:Int):=IntWalk.wrap64_in _ (by have:=c.toNat_lt;omega)
     have hcd:s.data.toList.getD 2 0=c:=by
       rw [List.getD_eq_getElem?_getD,List.getElem?_eq_getElem (by omega),Option.getD_some,←hc];rfl
     by_cases hv:c.toNat < 1∨3 < c.toNat
     · have h:opnF s.data.toList=(0,[],8):=opn_none h8l hp (by rw [hcd];exact hv)
       rw [h]
       clear h hl hp hcd
       rcases hv with hv | hv
       · have hvi:(c.toNat:Int) < 1:=by omega
         go_enter Tryz.func50,Tryz.ntmps50
         go_wp2_with fail
         refine (Tryz.strings_HasPrefix s _ w).mono ?_
         rintro r w1 ⟨rfl,rfl⟩
         rw [HPB.out]
         go_wp2
         go_ret3
         exact ⟨rfl,Below.refl _ _⟩
       · have hvi:3 < (c.toNat:Int):=by omega
         have hvj:1≤(c.toNat:Int):=by omega
         go_enter Tryz.func50,Tryz.ntmps50
         go_wp2_with fail
         refine (Tryz.strings_HasPrefix s _ w).mono ?_
         rintro r w1 ⟨rfl,rfl⟩
         rw [HPB.out]
         go_wp2
         go_ret3
         exact ⟨rfl,Below.refl _ _⟩
     · have hv1:1≤(c.toNat:Int):=by omega
       have hv2:(c.toNat:Int)≤3:=by omega
       obtain ⟨o,e,hop⟩:∃ o e,openL s.data.toList=(o,e):=⟨_,_,rfl⟩
       have HO:Hid (openV (openL s.data.toList)=.tuple #[.string ⟨o.toArray⟩,errC e]):=Lib.hid (by show openV _=_;rw [hop];rfl)
       by_cases he:e=0
       · subst he
         have h:opnF s.data.toList=(c.toNat,o.drop 3,0):=by rw [opn_ok h8l hp (by rw [hcd];exact hv) (by rw [hop]),hcd,hop]
         rw [h]
         obtain ⟨O,hO⟩:∃ O:ByteArray,(⟨o.toArray⟩:ByteArray)=O:=⟨_,rfl⟩
         have hOd:o=O.data.toList:=by rw [←hO]
         have hoz:O.size=s.size - 4:=by
           unfold openL at hop
           split at hop
           · injection hop with _ h2;cases h2
           · split at hop
             · injection hop with h1 _;rw [size_data,←hOd,←h1,List.length_take];omega
             · injection hop with _ h2;cases h2
         have hO3:3≤(O.size:Int):=by omega
         have HR:Hid (opnV (c.toNat,o.drop 3,0)=.tuple #[.int .i64 (c.toNat:Nat),.string (O.extract 3 O.size),.nilIface]):=Lib.hid (by
           have e1:(⟨(o.drop 3).toArray⟩:ByteArray)=O.extract 3 O.size:=bytes_ext (by
             rw [ext_list,←hOd,List.take_of_length_le (by rw [List.length_drop,hOd,←size_data];omega)])
           show Value.tuple #[.int .i64 (c.toNat:Nat),.string ⟨(o.drop 3).toArray⟩,errC 0]=_
           rw [e1];rfl)
         rw [hO] at HO
         have HO3:=Lib.hid hoz
         clear h hl hp hcd hop hO hOd hoz
         go_enter Tryz.func50,Tryz.ntmps50
         go_wp2_with fail
         refine (Tryz.strings_HasPrefix s _ w).mono ?_
         rintro r w1 ⟨rfl,rfl⟩
         rw [HPB.out]
         go_wp2_with fail
         refine (open_any s _ hs).mono ?_
         rintro r w2 ⟨rfl,hb2⟩
         rw [HO.out,errC_zero]
         have HB2:=Lib.hid hb2
         clear hb2
         go_wp2
         go_region
         go_wp2
         go_ret3
         exact ⟨by rw [HR.out];rfl,HB2.out.drew⟩
       · have h:opnF s.data.toList=(0,[],e):=opn_spoilt h8l hp (by rw [hcd];exact hv) (by rw [hop]) he
         rw [h]
         have HR:Hid (opnV (0,[],e)=.tuple #[.int .i64 0,.string ⟨#[]⟩,.iface 44 (.int .i64 e)]):=Lib.hid (by unfold opnV;rw [errC_ne he];rfl)
         rw [errC_ne he] at HO
         clear h hl hp hcd hop
         go_enter Tryz.func50,Tryz.ntmps50
         go_wp2_with fail
         refine (Tryz.strings_HasPrefix s _ w).mono ?_
         rintro r w1 ⟨rfl,rfl⟩
         rw [HPB.out]
         go_wp2_with fail
         refine (open_any s _ hs).mono ?_
         rintro r w2 ⟨rfl,hb2⟩
         rw [HO.out]
         have HB2:=Lib.hid hb2
         clear hb2
         go_wp2
         go_ret3
         exact ⟨by rw [HR.out];rfl,HB2.out⟩
   · have HPB:Hid (Lib.hasPrefix s.data.toList [80,84]=false):=Lib.hid (pre_not hp)
     have h:opnF s.data.toList=(0,[],5):=opn_name h8l hp
     rw [h]
     clear h hl hp
     go_enter Tryz.func50,Tryz.ntmps50
     go_wp2_with fail
     refine (Tryz.strings_HasPrefix s _ w).mono ?_
     rintro r w1 ⟨rfl,rfl⟩
     rw [HPB.out]
     go_wp2
     go_ret3
     exact ⟨rfl,Below.refl _ _⟩
theorem fopen_as (s I:ByteArray) (v e:Nat) (w:World) (hs:s.size≤140737488351232) (h:opnF s.data.toList=(v,I.data.toList,e)) :
   Calls Tryz.prog 50 #[.string s] w fun r w'=>r=.returned (.tuple #[.int .i64 (v:Int),.string I,errC e])∧Below w.heap.size w w':=by
 have h1:=fopen_any s w hs
 rw [h] at h1
 unfold opnV at h1
 simp only [bs_of] at h1
 exact h1
set_option maxRecDepth 100000 in
theorem version_as (s I:ByteArray) (v e:Nat) (w:World) (hs:s.size≤140737488351232) (h:opnF s.data.toList=(v,I.data.toList,e)) :
   Calls Tryz.prog 20 #[.string s] w fun r w'=>r=.returned (.tuple #[.int .i64 (v:Int),errC e])∧Below w.heap.size w w':=by
 have H:=Lib.hid h
 obtain ⟨q,hq⟩:∃ q,errC e=q:=⟨_,rfl⟩
 have HQ:=Lib.hid hq
 rw [hq]
 clear h hq
 go_enter Tryz.func20,Tryz.ntmps20
 go_wp2_with fail
 refine (fopen_as s I v e _ hs H.out).mono ?_
 rintro r w1 ⟨rfl,hb1⟩
 rw [HQ.out]
 have HB1:=Lib.hid hb1
 clear hb1
 go_wp2
 go_ret2
 exact ⟨rfl,HB1.out⟩
set_option maxRecDepth 100000 in
theorem inside_as (s I:ByteArray) (v e:Nat) (w:World) (hs:s.size≤140737488351232) (h:opnF s.data.toList=(v,I.data.toList,e)) :
   Calls Tryz.prog 26 #[.string s] w fun r w'=>r=.returned (.tuple #[.string I,errC e])∧Below w.heap.size w w':=by
 have H:=Lib.hid h
 obtain ⟨q,hq⟩:∃ q,errC e=q:=⟨_,rfl⟩
 have HQ:=Lib.hid hq
 rw [hq]
 clear h hq
 go_enter Tryz.func26,Tryz.ntmps26
 go_wp2_with fail
 refine (fopen_as s I v e _ hs H.out).mono ?_
 rintro r w1 ⟨rfl,hb1⟩
 rw [HQ.out]
 have HB1:=Lib.hid hb1
 clear hb1
 go_wp2
 go_ret2
 exact ⟨rfl,HB1.out⟩
end Go.Proofs.YtjkbmfpomgcblaaGreatDoor
namespace Go.Proofs.YtjkbmfpomgcblaaGreatDoor
open Go.RowKit
theorem ref_conv (n:Nat) (w:World):(convert 60 9 (.slice (some ⟨w.heap.size,0,none⟩) 1 1)).run Tryz.prog (w.alloc (.cells #[.int .u8 ((n:Int) % 256)] 5))=.ok (.string ⟨#[UInt8.ofNat n]⟩) (w.alloc (.cells #[.int .u8 ((n:Int) % 256)] 5)):=by
 refine run_convert_bytes_back _ _ _ _ _ _ [UInt8.ofNat n] Tryz.underlying60 Tryz.underlying5 Tryz.underlying9 fun j hj=>?_
 obtain rfl:j=0:=by simp at hj;omega
 have hadd:(⟨w.heap.size,0,none⟩:Addr).add 0=⟨w.heap.size,0,none⟩:=rfl
 rw [hadd,cell_of_row _ _ _ _ _ _ (heap_alloc_new w _)]
 simp
def tk (s:ByteArray) (n k:Nat):ByteArray:=s ++ ⟨((tail4 n).take k).toArray⟩
theorem tk_zero (s:ByteArray) (n:Nat):tk s n 0=s:=by apply bytes_ext;unfold tk;simp
theorem tk_size (s:ByteArray) (n k:Nat):(tk s n k).size≤s.size + 4:=by
 unfold tk
 rw [ByteArray.size_append]
 have:(⟨((tail4 n).take k).toArray⟩:ByteArray).size=((tail4 n).take k).length:=by show ((tail4 n).take k).toArray.size=_;simp
 rw [this]
 have h2:((tail4 n).take k).length≤4:=List.length_take_le' _ _
 omega
theorem tk_succ (s:ByteArray) (n k:Nat) (h:k < 4):tk s n k ++ ⟨#[UInt8.ofNat (n / 256 ^ k)]⟩=tk s n (k + 1):=by
 apply bytes_ext
 unfold tk
 simp only [ByteArray.data_append,Array.toList_append,List.append_assoc]
 congr 1
 match k,h with
 | 0,_=>simp [tail4]
 | 1,_=>simp [tail4]
 | 2,_=>simp [tail4]
 | 3,_=>simp [tail4]
theorem tk_all (s:ByteArray):tk s (sum s.data.toList) 4=sealB s:=rfl
theorem div_next (n k:Nat):((n / 256 ^ k:Nat):Int) / 256=((n / 256 ^ (k + 1):Nat):Int):=by
 rw [Nat.pow_succ,←Nat.div_div_eq_div_mul]
 omega
set_option maxRecDepth 100000 in
set_option maxHeartbeats 1000000 in
theorem refseal_any (s:ByteArray) (w:World) (hs:s.size≤1000000) :
   Calls Tryz.prog 66 #[.string s] w fun e w'=>e=.returned (.string (sealB s))∧Below w.heap.size w w':=by
 have hl:=sum_lt s.data.toList
 obtain ⟨n,hn⟩:∃ n,n=sum s.data.toList:=⟨_,rfl⟩
 have HN:=Lib.hid hn
 rw [←hn] at hl
 clear hn
 go_enter Tryz.func66,Tryz.ntmps66
 go_wp2_with fail
 refine (refsum_any _ _ hs).mono ?_
 rintro e w' ⟨rfl,rfl⟩
 rw [←HN.out]
 go_wp2
 go_loopw [0,3,6] (fun t m c wr=>∃ k:Nat,k≤4∧c=.int .i64 k∧t=.string (tk s n k)∧m=.int .u32 (n / 256 ^ k:Nat)∧Below w.heap.size w wr) (fun _ _ c _=>4 - (intOf c).toNat)
 case atStart=>exact ⟨0,by omega,rfl,by rw [tk_zero],by simp,Below.refl _ _⟩
 case round =>
   obtain ⟨k,hk,rfl,rfl,rfl,hb⟩:=hrel
   have HB:=Lib.hid hb
   clear hb
   by_cases hlt:k < 4
   · have hcv:=ref_conv (n / 256 ^ k) wr
     have hz:=tk_size s n k
     have hd:=div_next n k
     have ht:=tk_succ s n k hlt
     have hm:n / 256 ^ k < 4294967296:=Nat.lt_of_le_of_lt (Nat.div_le_self _ _) hl
     obtain ⟨m2,hm2⟩:∃ m2,n / 256 ^ (k + 1)=m2:=⟨_,rfl⟩
     rw [hm2] at hd
     have HM2:=Lib.hid hm2
     clear hm2
     generalize n / 256 ^ k=m at *
     go_wp2
     go_roundw
     case rel=>exact ⟨k + 1,by omega,by go_num,rfl,by rw [HM2.out],HB.out.alloc HB.out.size _⟩
     case measure=>simp [intOf];omega
   · obtain rfl:k=4:=by omega
     have HT:Hid (tk s n 4=sealB s):=by
       have h:tk s n 4=sealB s:=by rw [HN.out];exact tk_all s
       exact h
     go_wp2
     go_ret
     exact ⟨by rw [←HT.out];rfl,HB.out⟩
def openR (r:List UInt8×Nat):Value:=.tuple #[.string ⟨r.1.toArray⟩,.int .i64 r.2]
theorem seal_take (s:ByteArray) (k:Nat):sealL (s.data.toList.take k)=s.data.toList↔s.data.toList.drop k=tail4 (sum (s.data.toList.take k)):=by
 unfold sealL
 constructor
 · intro h
   have h2:s.data.toList.take k ++ tail4 (sum (s.data.toList.take k))=s.data.toList.take k ++ s.data.toList.drop k:=by rw [h,List.take_append_drop]
   exact (List.append_cancel_left h2).symm
 · intro h;rw [←h,List.take_append_drop]
theorem ext_data0 (s:ByteArray) (k:Nat):(s.extract 0 k).data.toList=s.data.toList.take k:=by rw [ext_list,List.drop_zero,Nat.sub_zero]
set_option maxRecDepth 100000 in
set_option maxHeartbeats 1000000 in
theorem refopen_any (s:ByteArray) (w:World) (hs:s.size≤1000000) :
   Calls Tryz.prog 72 #[.string s] w fun e w'=>e=.returned (openR (openL s.data.toList))∧Below w.heap.size w w':=by
 by_cases h4:s.size < 4
 · have h:openL s.data.toList=([],7):=by unfold openL;rw [if_pos (by simpa using h4)]
   rw [h]
   go_enter Tryz.func72,Tryz.ntmps72
   go_wp2
   go_ret2
   exact ⟨rfl,Below.refl _ _⟩
 · obtain ⟨k,hk⟩:∃ k,s.size=k + 4:=⟨s.size - 4,by omega⟩
   have e1:(s.size:Int) - 4=(k:Int):=by omega
   have e2:(0:Int)≤(k:Int):=by omega
   have e3:(k:Int)≤(s.size:Int):=by omega
   have hk2:k≤s.size:=by omega
   have HZ:Hid ((s.extract 0 k).size≤1000000):=by
     have h:(s.extract 0 k).size≤1000000:=by simp;omega
     exact h
   obtain ⟨_,t2,t3⟩:=open_test s k hk
   have hst:=seal_take s k
   by_cases hq:s.data.toList.drop k=tail4 (sum (s.data.toList.take k))
   · have HO : Hid (openR (openL s.data.toList) = .tuple #[.string (s.extract 0 k), .int .i64 0]) := by
       have h:openL s.data.toList=(s.data.toList.take k,0):=by
         unfold openL
         rw [if_neg t3,t2,if_pos hq]
       show openR _=_
       rw [h]
       unfold openR
       rw [take_bytes];rfl
     have HS:Hid (sealB (s.extract 0 k)=s):=by
       have h:sealB (s.extract 0 k)=s:=by apply bytes_ext;rw [sealB_data,ext_data0];exact hst.2 hq
       exact h
     clear hq t2 t3 hk hst
     go_enter Tryz.func72,Tryz.ntmps72
     go_wp2_with fail
     refine (refseal_any _ _ HZ.out).mono ?_
     rintro r w1 ⟨rfl,hb1⟩
     rw [HS.out]
     have HB:=Lib.hid hb1
     clear hb1
     go_wp2
     go_ret2
     exact ⟨by rw [HO.out];rfl,HB.out⟩
   · have HO : Hid (openR (openL s.data.toList) = .tuple #[.string ⟨#[]⟩, .int .i64 15]) := by
       have h:openL s.data.toList=([],15):=by
         unfold openL
         rw [if_neg t3,t2,if_neg hq]
       show openR _=_
       rw [h]
       rfl
     have hne:¬ sealB (s.extract 0 k)=s:=fun h=>hq (hst.1 (by have h2:=congrArg (fun b:ByteArray=>b.data.toList) h;rw [sealB_data,ext_data0] at h2;exact h2))
     have hb1:((sealB (s.extract 0 k)).toList == s.toList)=false:=beq_eq_false_iff_ne.2 (fun h=>hne (bytes_ext (by rw [←toL,←toL];exact h)))
     clear hq t2 t3 hk hst hne
     go_enter Tryz.func72,Tryz.ntmps72
     go_wp2_with fail
     refine (refseal_any _ _ HZ.out).mono ?_
     rintro r w1 ⟨rfl,hbw⟩
     have HB:=Lib.hid hbw
     clear hbw
     go_wp2
     go_ret2
     exact ⟨by rw [HO.out];rfl,HB.out⟩
end Go.Proofs.YtjkbmfpomgcblaaGreatDoor
namespace Go.Proofs.YtjkbmfpomgcblaaGreatDoor
open Go.RowKit
set_option maxRecDepth 100000 in
set_option maxHeartbeats 4000000 in
theorem rbsame_as (vf vh vw uf uh uw:Value) (f h:List Ent) (l:List Wr) (f2 h2:List Ent) (l2:List Wr) (c:Bool) (w:World) (hx:BatIs w vf vh vw f h l) (hy:BatIs w uf uh uw f2 h2 l2) (hc:sameV f h l f2 h2 l2=c) :
   Calls Tryz.prog 34 #[.agg #[vf,vh,vw],.agg #[uf,uh,uw]] w fun e w'=>e=.returned (.bool c)∧Below w.heap.size w w':=by
 subst hc
 have HX:=Lib.hid hx
 have HY:=Lib.hid hy
 obtain ⟨hf,hh,hv,_⟩:=hx
 obtain ⟨af,cf,rfl,_⟩:=hf.form
 obtain ⟨ah,ch,rfl,_⟩:=hh.form
 obtain ⟨aw,cw,rfl,_⟩:=hv.form
 obtain ⟨hf2,hh2,hv2,_⟩:=hy
 obtain ⟨bf,df,rfl,_⟩:=hf2.form
 obtain ⟨bh,dh,rfl,_⟩:=hh2.form
 obtain ⟨bw,dw,rfl,_⟩:=hv2.form
 clear hf hh hv hf2 hh2 hv2
 obtain ⟨nf,hn1⟩:∃ n,n=f.length:=⟨_,rfl⟩
 obtain ⟨nh,hn2⟩:∃ n,n=h.length:=⟨_,rfl⟩
 obtain ⟨n,hn3⟩:∃ n,n=l.length:=⟨_,rfl⟩
 obtain ⟨mf,hn4⟩:∃ n,n=f2.length:=⟨_,rfl⟩
 obtain ⟨mh,hn5⟩:∃ n,n=h2.length:=⟨_,rfl⟩
 obtain ⟨m,hn6⟩:∃ n,n=l2.length:=⟨_,rfl⟩
 rw [←hn1,←hn2,←hn3] at HX ⊢
 rw [←hn4,←hn5,←hn6] at HY ⊢
 obtain ⟨c1,e1⟩:∃ c,decide (f=f2)=c:=⟨_,rfl⟩
 obtain ⟨c2,e2⟩:∃ c,decide (h=h2)=c:=⟨_,rfl⟩
 obtain ⟨c3,e3⟩:∃ c,decide (l=l2)=c:=⟨_,rfl⟩
 have HR:Hid (sameV f h l f2 h2 l2=(c1 && c2 && c3)):=Lib.hid (by unfold sameV;rw [e1,e2,e3])
 have H1:=Lib.hid e1
 have H2:=Lib.hid e2
 have H3:=Lib.hid e3
 have HW0:Hid (Below w.heap.size w ((w.alloc (.cells #[.slice af nf cf,.slice ah nh ch,.slice aw n cw] 25)).alloc (.cells #[.slice bf mf df,.slice bh mh dh,.slice bw m dw] 25))):=Lib.hid (((Below.refl _ _).alloc (Nat.le_refl _) _).alloc (by simp) _)
 have HA:Hid (bat2 ((w.alloc (.cells #[.slice af nf cf,.slice ah nh ch,.slice aw n cw] 25)).alloc (.cells #[.slice bf mf df,.slice bh mh dh,.slice bw m dw] 25)) w.heap.size (.slice af nf cf) (.slice ah nh ch) (.slice aw n cw) (.slice bf mf df) (.slice bh mh dh) (.slice bw m dw)):=Lib.hid (bat2_new _ _ _ _ _ _ _ _ _)
 clear hn1 hn2 hn3 hn4 hn5 hn6 e1 e2 e3
 rw [HR.out]
 go_enter Tryz.func34,Tryz.ntmps34
 go_wp2_with fail
 generalize (w.alloc (.cells #[.slice af nf cf,.slice ah nh ch,.slice aw n cw] 25)).alloc (.cells #[.slice bf mf df,.slice bh mh dh,.slice bw m dw] 25)=W at HA HW0 ⊢
 have HX0:=Lib.hid (HX.out.below HW0.out)
 have HY0:=Lib.hid (HY.out.below HW0.out)
 refine (requale_as _ _ f f2 c1 _ HX0.out.1 HY0.out.1 HX0.out.2.2.2.1 HY0.out.2.2.2.1 H1.out).mono ?_
 rintro r w1 ⟨rfl,q1,rfl⟩
 cases c1 with
 | false =>
   go_wp2
   go_ret
   exact ⟨rfl,below_drewN HW0.out _⟩
 | true =>
   obtain ⟨d0,d1,d2,d3,d4,d5⟩:=HA.out.drewN q1
   go_wp2_with fail
   refine (requale_as _ _ h h2 c2 _ (HX0.out.2.1.drewN q1) (HY0.out.2.1.drewN q1) HX0.out.2.2.2.2.1 HY0.out.2.2.2.2.1 H2.out).mono ?_
   rintro r w2 ⟨rfl,q2,rfl⟩
   rw [World.drewN_drewN]
   clear d0 d1 d2 d3 d4 d5
   cases c2 with
   | false =>
     go_wp2
     go_ret
     exact ⟨rfl,below_drewN HW0.out _⟩
   | true =>
     obtain ⟨d0,d1,d2,d3,d4,d5⟩:=HA.out.drewN (q1 + q2)
     go_wp2_with fail
     refine (requalw_as _ _ l l2 c3 _ (HX0.out.2.2.1.drewN (q1 + q2)) (HY0.out.2.2.1.drewN (q1 + q2)) HX0.out.2.2.2.2.2.1 HY0.out.2.2.2.2.2.1 H3.out).mono ?_
     rintro r w3 ⟨rfl,q3,rfl⟩
     rw [World.drewN_drewN]
     clear d0 d1 d2 d3 d4 d5
     go_wp2
     go_ret
     exact ⟨by first | rfl | simp,below_drewN HW0.out _⟩
end Go.Proofs.YtjkbmfpomgcblaaGreatDoor
namespace Go.Proofs.YtjkbmfpomgcblaaGreatDoor
open Go.RowKit
theorem within_as (x1 x2:Int) (vf vh:Value) (f h:List Ent) (b:Bool) (w:World) (hf:IsEnts w vf f) (hh:IsEnts w vh h) (hlf:f.length≤9223372036854775807) (hlh:h.length≤9223372036854775807) (hb:wiF (x1,x2) f h=b) :
   Calls Tryz.prog 147 #[.agg #[.int .i64 x1,.int .i64 x2],vf,vh] w fun e w'=>e=.returned (.bool b)∧Below w.heap.size w w':=within_any x1 x2 vf vh f h w hf hh hlf hlh b hb
end Go.Proofs.YtjkbmfpomgcblaaGreatDoor
