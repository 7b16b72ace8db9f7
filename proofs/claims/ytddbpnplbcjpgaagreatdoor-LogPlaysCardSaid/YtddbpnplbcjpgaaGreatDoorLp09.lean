import Derived.Test.YtddbpnplbcjpgaaGreatDoorLp08
import Derived.Laws.Rows
import Derived.WalkLawsBesides
namespace Go.Proofs.YtddbpnplbcjpgaaGreatDoor
open Go.RowKit
set_option maxRecDepth 100000 in
set_option maxHeartbeats 1000000 in
theorem requal_ents (v1 v2:Value) (l m:List Ent) (w:World) (h1:IsEnts w v1 l) (h2:IsEnts w v2 m) (hl:l.length≤9223372036854775807) (hm:m.length≤9223372036854775807) :
   Calls Tryz.prog 47 #[v1,v2] w fun e w'=>e=.returned (.bool (decide (l=m)))∧∃ q,w'=w.drewN q:=by
 obtain ⟨a1,c1,rfl,f1⟩:=h1.form
 obtain ⟨a2,c2,rfl,f2⟩:=h2.form
 have F1:=Lib.hid f1
 have F2:=Lib.hid f2
 obtain ⟨n,hn⟩:∃ n,n=l.length:=⟨_,rfl⟩
 obtain ⟨n2,hn2⟩:∃ n,n=m.length:=⟨_,rfl⟩
 rw [←hn] at hl ⊢
 rw [←hn2] at hm ⊢
 have HN:=Lib.hid hn
 have HN2:=Lib.hid hn2
 clear h1 h2 f1 f2 hn hn2
 by_cases hne:n=n2
 · subst hne
   go_enter Tryz.func47,Tryz.ntmps47
   go_wp2
   go_loopw [13] (fun i wr=>∃ k q:Nat,k≤n∧i=.int .i64 k∧l.take k=m.take k∧wr=w.drewN q) (fun i _=>n - (intOf i).toNat)
   case atStart=>exact ⟨0,0,by omega,rfl,rfl,rfl⟩
   case round =>
     obtain ⟨k,q,hk,rfl,htk,rfl⟩:=hrel
     have HTK:=Lib.hid htk
     clear htk
     by_cases hlt:k < n
     · obtain ⟨t, ht⟩ : ∃ t, l[k]? = some t := ⟨l[k]'(by have := HN.out; omega), List.getElem?_eq_getElem _⟩
       obtain ⟨u, hu⟩ : ∃ u, m[k]? = some u := ⟨m[k]'(by have := HN2.out; omega), List.getElem?_eq_getElem _⟩
       obtain ⟨b1,o1,rfl,_,p0,p1⟩:=F1.out k t ht
       obtain ⟨b2,o2,rfl,_,q0,q1⟩:=F2.out k u hu
       have HTT:=Lib.hid ht
       have HUU:=Lib.hid hu
       clear ht hu
       obtain ⟨r1,t1⟩:=t
       obtain ⟨r2,t2⟩:=u
       simp only at p0 p1 q0 q1
       by_cases hr:r1=r2
       · by_cases ht:t1=t2
         · subst hr ht
           have HST:=Lib.hid (eq_step HTK.out HTT.out HUU.out rfl)
           go_wp2
           go_quiet (fail)
           go_wp2
           go_roundw
           case rel=>exact ⟨k + 1,_,by omega,by go_num,HST.out,rfl⟩
           case measure=>simp [intOf];omega
         · subst hr
           have HE:Hid (decide (l=m)=false):=Lib.hid (show decide (l=m)=false by
             rw [decide_eq_false_iff_not];rintro rfl
             have:=HTT.out.symm.trans HUU.out
             simp at this;exact ht this)
           have x1:(t1 == t2)=false:=by simpa using ht
           have x2:(t1 != t2)=true:=by simpa using ht
           go_wp2
           go_quiet (fail)
           go_wp2
           go_ret
           exact ⟨by rw [HE.out];rfl,by first | exact ⟨_,rfl⟩ | exact ⟨_,by rw [World.drewN_drewN]⟩⟩
       · have HE : Hid (decide (l = m) = false) := Lib.hid (show decide (l = m) = false by
           rw [decide_eq_false_iff_not];rintro rfl
           have:=HTT.out.symm.trans HUU.out
           simp at this;exact hr this.1)
         have x1:(r1 == r2)=false:=by simpa using hr
         have x2:(r1 != r2)=true:=by simpa using hr
         go_wp2
         go_quiet (fail)
         go_wp2
         go_ret
         exact ⟨by rw [HE.out];rfl,by first | exact ⟨_,rfl⟩ | exact ⟨_,by rw [World.drewN_drewN]⟩⟩
     · have HE : Hid (decide (l = m) = true) := Lib.hid (show decide (l = m) = true by
         rw [decide_eq_true_eq]
         have h:=HTK.out
         rw [List.take_of_length_le (by have:=HN.out;omega),List.take_of_length_le (by have:=HN2.out;omega)] at h
         exact h)
       go_wp2
       go_ret
       exact ⟨by rw [HE.out];rfl,by first | exact ⟨_,rfl⟩ | exact ⟨_,by rw [World.drewN_drewN]⟩⟩
 · have HE : Hid (decide (l = m) = false) := Lib.hid (show decide (l = m) = false by
     rw [decide_eq_false_iff_not];rintro rfl;exact hne (HN.out.trans HN2.out.symm))
   have x1:((n:Int) == (n2:Int))=false:=by simp;omega
   have x2:((n:Int) != (n2:Int))=true:=by simp;omega
   rw [HE.out]
   go_enter Tryz.func47,Tryz.ntmps47
   go_wp2
   go_ret
   exact ⟨rfl,0,rfl⟩
theorem requale_as (v1 v2:Value) (l m:List Ent) (c:Bool) (w:World) (h1:IsEnts w v1 l) (h2:IsEnts w v2 m) (hl:l.length≤9223372036854775807) (hm:m.length≤9223372036854775807) (hc:decide (l=m)=c) :
   Calls Tryz.prog 47 #[v1,v2] w fun e w'=>e=.returned (.bool c)∧∃ q,w'=w.drewN q :=
 (requal_ents v1 v2 l m w h1 h2 hl hm).mono fun _ _ ⟨h1,h2⟩=>⟨by rw [h1,hc],h2⟩
set_option maxRecDepth 100000 in
set_option maxHeartbeats 4000000 in
theorem requal_wrs (v1 v2:Value) (l m:List Wr) (w:World) (h1:IsWrs w v1 l) (h2:IsWrs w v2 m) (hl:l.length≤9223372036854775807) (hm:m.length≤9223372036854775807) :
   Calls Tryz.prog 48 #[v1,v2] w fun e w'=>e=.returned (.bool (decide (l=m)))∧∃ q,w'=w.drewN q:=by
 obtain ⟨a1,c1,rfl,f1⟩:=h1.form
 obtain ⟨a2,c2,rfl,f2⟩:=h2.form
 have F1:=Lib.hid f1
 have F2:=Lib.hid f2
 obtain ⟨n,hn⟩:∃ n,n=l.length:=⟨_,rfl⟩
 obtain ⟨n2,hn2⟩:∃ n,n=m.length:=⟨_,rfl⟩
 rw [←hn] at hl ⊢
 rw [←hn2] at hm ⊢
 have HN:=Lib.hid hn
 have HN2:=Lib.hid hn2
 clear h1 h2 f1 f2 hn hn2
 by_cases hne:n=n2
 · subst hne
   go_enter Tryz.func48,Tryz.ntmps48
   go_wp2
   go_loopw [13] (fun i wr=>∃ k q:Nat,k≤n∧i=.int .i64 k∧l.take k=m.take k∧wr=w.drewN q) (fun i _=>n - (intOf i).toNat)
   case atStart=>exact ⟨0,0,by omega,rfl,rfl,rfl⟩
   case round =>
     obtain ⟨k,q,hk,rfl,htk,rfl⟩:=hrel
     have HTK:=Lib.hid htk
     clear htk
     by_cases hlt:k < n
     · obtain ⟨t, ht⟩ : ∃ t, l[k]? = some t := ⟨l[k]'(by have := HN.out; omega), List.getElem?_eq_getElem _⟩
       obtain ⟨u, hu⟩ : ∃ u, m[k]? = some u := ⟨m[k]'(by have := HN2.out; omega), List.getElem?_eq_getElem _⟩
       obtain ⟨b1,o1,rfl,_,p0,p1,p2,p3,p4,p5⟩:=F1.out k t ht
       obtain ⟨b2,o2,rfl,_,q0,q1,q2,q3,q4,q5⟩:=F2.out k u hu
       have HTT:=Lib.hid ht
       have HUU:=Lib.hid hu
       clear ht hu
       obtain ⟨T1,R1,K1,key1,val1,N1⟩:=t
       obtain ⟨T2,R2,K2,key2,val2,N2⟩:=u
       simp only at p0 p1 p2 p3 p4 p5 q0 q1 q2 q3 q4 q5
       by_cases he0:T1=T2
       · subst he0
         by_cases he1:R1=R2
         · subst he1
           by_cases he2:K1=K2
           · subst he2
             by_cases he3:key1=key2
             · subst he3
               by_cases he4:val1=val2
               · subst he4
                 by_cases he5:N1=N2
                 · subst he5
                   have HST:=Lib.hid (wq_step HTK.out HTT.out HUU.out rfl)
                   go_wp2
                   go_quiet (fail)
                   go_wp2
                   go_roundw
                   case rel=>exact ⟨k + 1,_,by omega,by go_num,HST.out,rfl⟩
                   case measure=>simp [intOf];omega
                 · have HE : Hid (decide (l = m) = false) := Lib.hid (show decide (l = m) = false by
                     rw [decide_eq_false_iff_not];rintro rfl
                     have:=HTT.out.symm.trans HUU.out
                     simp only [Option.some.injEq,Wr.mk.injEq] at this
                     exact he5 this.2.2.2.2.2)
                   have x1:(N1 == N2)=false:=by simpa using he5
                   have x2:(N1 != N2)=true:=by simpa using he5
                   go_wp2
                   go_quiet (fail)
                   go_wp2
                   go_ret
                   exact ⟨by rw [HE.out];rfl,by first | exact ⟨_,rfl⟩ | exact ⟨_,by rw [World.drewN_drewN]⟩⟩
               · have HE : Hid (decide (l = m) = false) := Lib.hid (show decide (l = m) = false by
                   rw [decide_eq_false_iff_not];rintro rfl
                   have:=HTT.out.symm.trans HUU.out
                   simp only [Option.some.injEq,Wr.mk.injEq] at this
                   exact he4 this.2.2.2.2.1)
                 have x1:(val1.toList == val2.toList)=false:=by rw [ByteArray.toList_eq,ByteArray.toList_eq,beq_eq_false_iff_ne];intro e9;exact he4 (bytes_ext e9)
                 have x2:(val1.toList != val2.toList)=true:=by rw [bne,x1];rfl
                 go_wp2
                 go_quiet (fail)
                 go_wp2
                 go_ret
                 exact ⟨by rw [HE.out];rfl,by first | exact ⟨_,rfl⟩ | exact ⟨_,by rw [World.drewN_drewN]⟩⟩
             · have HE : Hid (decide (l = m) = false) := Lib.hid (show decide (l = m) = false by
                 rw [decide_eq_false_iff_not];rintro rfl
                 have:=HTT.out.symm.trans HUU.out
                 simp only [Option.some.injEq,Wr.mk.injEq] at this
                 exact he3 this.2.2.2.1)
               have x1:(key1.toList == key2.toList)=false:=by rw [ByteArray.toList_eq,ByteArray.toList_eq,beq_eq_false_iff_ne];intro e9;exact he3 (bytes_ext e9)
               have x2:(key1.toList != key2.toList)=true:=by rw [bne,x1];rfl
               go_wp2
               go_quiet (fail)
               go_wp2
               go_ret
               exact ⟨by rw [HE.out];rfl,by first | exact ⟨_,rfl⟩ | exact ⟨_,by rw [World.drewN_drewN]⟩⟩
           · have HE : Hid (decide (l = m) = false) := Lib.hid (show decide (l = m) = false by
               rw [decide_eq_false_iff_not];rintro rfl
               have:=HTT.out.symm.trans HUU.out
               simp only [Option.some.injEq,Wr.mk.injEq] at this
               exact he2 this.2.2.1)
             have x1:(K1 == K2)=false:=by simpa using he2
             have x2:(K1 != K2)=true:=by simpa using he2
             go_wp2
             go_quiet (fail)
             go_wp2
             go_ret
             exact ⟨by rw [HE.out];rfl,by first | exact ⟨_,rfl⟩ | exact ⟨_,by rw [World.drewN_drewN]⟩⟩
         · have HE : Hid (decide (l = m) = false) := Lib.hid (show decide (l = m) = false by
             rw [decide_eq_false_iff_not];rintro rfl
             have:=HTT.out.symm.trans HUU.out
             simp only [Option.some.injEq,Wr.mk.injEq] at this
             exact he1 this.2.1)
           have x1:(R1 == R2)=false:=by simpa using he1
           have x2:(R1 != R2)=true:=by simpa using he1
           go_wp2
           go_quiet (fail)
           go_wp2
           go_ret
           exact ⟨by rw [HE.out];rfl,by first | exact ⟨_,rfl⟩ | exact ⟨_,by rw [World.drewN_drewN]⟩⟩
       · have HE : Hid (decide (l = m) = false) := Lib.hid (show decide (l = m) = false by
           rw [decide_eq_false_iff_not];rintro rfl
           have:=HTT.out.symm.trans HUU.out
           simp only [Option.some.injEq,Wr.mk.injEq] at this
           exact he0 this.1)
         have x1:(T1 == T2)=false:=by simpa using he0
         have x2:(T1 != T2)=true:=by simpa using he0
         go_wp2
         go_quiet (fail)
         go_wp2
         go_ret
         exact ⟨by rw [HE.out];rfl,by first | exact ⟨_,rfl⟩ | exact ⟨_,by rw [World.drewN_drewN]⟩⟩
     · have HE : Hid (decide (l = m) = true) := Lib.hid (show decide (l = m) = true by
         rw [decide_eq_true_eq]
         have h:=HTK.out
         rw [List.take_of_length_le (by have:=HN.out;omega),List.take_of_length_le (by have:=HN2.out;omega)] at h
         exact h)
       go_wp2
       go_ret
       exact ⟨by rw [HE.out];rfl,by first | exact ⟨_,rfl⟩ | exact ⟨_,by rw [World.drewN_drewN]⟩⟩
 · have HE : Hid (decide (l = m) = false) := Lib.hid (show decide (l = m) = false by
     rw [decide_eq_false_iff_not];rintro rfl;exact hne (HN.out.trans HN2.out.symm))
   have x1:((n:Int) == (n2:Int))=false:=by simp;omega
   have x2:((n:Int) != (n2:Int))=true:=by simp;omega
   rw [HE.out]
   go_enter Tryz.func48,Tryz.ntmps48
   go_wp2
   go_ret
   exact ⟨rfl,0,rfl⟩
theorem requalw_as (v1 v2:Value) (l m:List Wr) (c:Bool) (w:World) (h1:IsWrs w v1 l) (h2:IsWrs w v2 m) (hl:l.length≤9223372036854775807) (hm:m.length≤9223372036854775807) (hc:decide (l=m)=c) :
   Calls Tryz.prog 48 #[v1,v2] w fun e w'=>e=.returned (.bool c)∧∃ q,w'=w.drewN q :=
 (requal_wrs v1 v2 l m w h1 h2 hl hm).mono fun _ _ ⟨h1,h2⟩=>⟨by rw [h1,hc],h2⟩
end Go.Proofs.YtddbpnplbcjpgaaGreatDoor
namespace Go.Proofs.YtddbpnplbcjpgaaGreatDoor
open Go.RowKit
theorem cell_info:(Tryz.prog.info? 105).map (·.size)=some 5:=by kernel_rfl
theorem cell_sized (a0 a1 a2 a3 a4:Value):(Tryz.prog.info? 105).map (·.size)=some (#[a0,a1,a2,a3,a4]:Array Value).size:=cell_info
set_option maxRecDepth 100000 in
theorem something_any (k t:ByteArray) (h:Bool) (s:Int) (a:Option Addr) (n c:Nat) (w:World) (hn:n≤9223372036854775807) :
   Calls Tryz.prog 109 #[.agg #[.string k,.bool h,.string t,.int .i64 s,.slice a n c]] w fun e w'=>e=.returned (.bool (h || s != 0 || decide (0 < n)))∧Below w.heap.size w w':=by
 cases h with
 | true =>
   go_enter Tryz.func109,Tryz.ntmps109
   go_wp2
   go_ret
   exact ⟨by first | rfl | simp,(Below.refl _ _).alloc (Nat.le_refl _) _⟩
 | false =>
   by_cases h1:s=0
   · subst h1
     by_cases h2:0 < n
     · have b2:decide ((0:Int) < (n:Int))=true:=by simpa using h2
       go_enter Tryz.func109,Tryz.ntmps109
       go_wp2
       go_ret
       exact ⟨by rw [decide_eq_true h2];rfl,(Below.refl _ _).alloc (Nat.le_refl _) _⟩
     · obtain rfl:n=0:=by omega
       go_enter Tryz.func109,Tryz.ntmps109
       go_wp2
       go_ret
       exact ⟨rfl,(Below.refl _ _).alloc (Nat.le_refl _) _⟩
   · have b1:(s != 0)=true:=by simpa using h1
     go_enter Tryz.func109,Tryz.ntmps109
     go_wp2
     go_ret
     exact ⟨by rw [b1];rfl,(Below.refl _ _).alloc (Nat.le_refl _) _⟩
theorem row5 {w:World} {B:Nat} {a0 a1 a2 a3 a4:Value} {T:TypeId} (h:w.heap[B]? = some (.cells #[a0,a1,a2,a3,a4] T (0,0))) :
   w.cell? ⟨B,0,none⟩=some a0∧w.cell? ⟨B,1,none⟩=some a1∧w.cell? ⟨B,2,none⟩=some a2∧w.cell? ⟨B,3,none⟩=some a3∧w.cell? ⟨B,4,none⟩=some a4 ∧
   w.frozen? ⟨B,0,none⟩=false∧w.frozen? ⟨B,1,none⟩=false∧w.frozen? ⟨B,2,none⟩=false∧w.frozen? ⟨B,3,none⟩=false∧w.frozen? ⟨B,4,none⟩=false :=
 ⟨cell_of_row _ _ 0 _ _ _ h,cell_of_row _ _ 1 _ _ _ h,cell_of_row _ _ 2 _ _ _ h,cell_of_row _ _ 3 _ _ _ h,cell_of_row _ _ 4 _ _ _ h,by simp [World.frozen?,h],by simp [World.frozen?,h],by simp [World.frozen?,h],by simp [World.frozen?,h],by simp [World.frozen?,h]⟩
theorem heap3 (w:World) (a b c:Obj):(((w.alloc a).alloc b).alloc c).heap[w.heap.size]? = some a∧(((w.alloc a).alloc b).alloc c).heap[w.heap.size + 1]? = some b∧(((w.alloc a).alloc b).alloc c).heap[w.heap.size + 1 + 1]? = some c:=by
 have old:∀ (W:World) (o:Obj) (k:Nat),k < W.heap.size→(W.alloc o).heap[k]? = W.heap[k]? := fun W o k hk=>(MapKept.heap_alloc W o).2 k hk
 have new:∀ (W:World) (o:Obj),(W.alloc o).heap[W.heap.size]? = some o:=fun W o=>(MapKept.heap_alloc W o).1
 have s1:(w.alloc a).heap.size=w.heap.size + 1:=by simp
 have s2:((w.alloc a).alloc b).heap.size=w.heap.size + 1 + 1:=by simp
 refine ⟨?_,?_,?_⟩
 · rw [old _ _ _ (by omega),old _ _ _ (by omega)];exact new _ _
 · rw [old _ _ _ (by omega)]
   have:=new (w.alloc a) b
   rwa [s1] at this
 · have:=new ((w.alloc a).alloc b) c
   rwa [s2] at this
structure Aft (w w1:World) (k t:ByteArray) (h:Bool) (s:Int) (l:Value) (x:Value):Prop where
 p0:w1.cell? ⟨w.heap.size,0,none⟩=some (.string k)
 p1:w1.cell? ⟨w.heap.size,1,none⟩=some (.bool h)
 p2:w1.cell? ⟨w.heap.size,2,none⟩=some (.string t)
 p3:w1.cell? ⟨w.heap.size,3,none⟩=some (.int .i64 s)
 p4:w1.cell? ⟨w.heap.size,4,none⟩=some l
 q0:w1.cell? ⟨w.heap.size + 1 + 1,0,none⟩=some (.string ⟨#[]⟩)
 q1:w1.cell? ⟨w.heap.size + 1 + 1,1,none⟩=some (.bool false)
 q2:w1.cell? ⟨w.heap.size + 1 + 1,2,none⟩=some (.string ⟨#[]⟩)
 q3:w1.cell? ⟨w.heap.size + 1 + 1,3,none⟩=some (.int .i64 0)
 q4:w1.cell? ⟨w.heap.size + 1 + 1,4,none⟩=some (.slice none 0 0)
 r:w1.heap[w.heap.size + 1 + 1]? = some (.cells #[.string ⟨#[]⟩,.bool false,.string ⟨#[]⟩,.int .i64 0,.slice none 0 0] 105 (0,0))
 f:∀ i,w1.frozen? ⟨w.heap.size,i,none⟩=false
 g:∀ i,w1.frozen? ⟨w.heap.size + 1 + 1,i,none⟩=false
theorem aft_of {w w1:World} {k t:ByteArray} {h:Bool} {s:Int} {l:Value} {b:Obj} {o:Option Nat}
   (hb:(((w.alloc (.cells #[.string k,.bool h,.string t,.int .i64 s,l] 105)).alloc b).alloc (.cells #[.string ⟨#[]⟩,.bool false,.string ⟨#[]⟩,.int .i64 0,.slice none 0 0] 105)).grownBy w1 o) (ho:∀ g,o=some g→g < w.heap.size):Aft w w1 k t h s l undef:=by
 obtain ⟨h0,_,h2⟩:=heap3 w (.cells #[.string k,.bool h,.string t,.int .i64 s,l] 105) b (.cells #[.string ⟨#[]⟩,.bool false,.string ⟨#[]⟩,.int .i64 0,.slice none 0 0] 105)
 have e0:=(hb.block w.heap.size (by simp;omega) (fun e=>by have:=ho _ e.symm;omega)).trans h0
 have e2:=(hb.block (w.heap.size + 1 + 1) (by simp) (fun e=>by have:=ho _ e.symm;omega)).trans h2
 obtain ⟨p0,p1,p2,p3,p4,_⟩:=row5 e0
 obtain ⟨q0,q1,q2,q3,q4,_⟩:=row5 e2
 exact ⟨p0,p1,p2,p3,p4,q0,q1,q2,q3,q4,e2,fun i=>by simp [World.frozen?,e0],fun i=>by simp [World.frozen?,e2]⟩
theorem grown_of_below {w w':World} (h:Below w.heap.size w w'):w.grownBy w' none:=⟨h.os,h.tape,h.output,h.size,fun k hk _=>h.block k hk⟩
theorem grown_set {a w:World} {o:Option Nat} (h:a.grownBy w o) {B i:Nat} (v:Value) (hB:a.heap.size≤B):a.grownBy (w.setCell ⟨B,i,none⟩ v) o :=
 ⟨h.os,h.tape,h.output,by rw [show (w.setCell ⟨B,i,none⟩ v).heap.size=w.heap.size from by simp];exact h.size,fun k hk hne=>by
   rw [heap_setCell_other _ _ _ _ (fun e=>by have e2:k=B:=e;omega)];exact h.block k hk hne⟩
theorem grown_alloc {a w:World} {o:Option Nat} (h:a.grownBy w o) (x:Obj):a.grownBy (w.alloc x) o :=
 ⟨h.os,h.tape,h.output,by simp;have:=h.size;omega,fun k hk hne=>((MapKept.heap_alloc w x).2 k (Nat.lt_of_lt_of_le hk h.size)).trans (h.block k hk hne)⟩
theorem grown_refl (a:World) (o:Option Nat):a.grownBy a o:=⟨rfl,rfl,rfl,Nat.le_refl _,fun _ _ _=>rfl⟩
theorem grown_then {a b c:World} {o:Option Nat} (h:a.grownBy b none) (k:b.grownBy c o):a.grownBy c o :=
 ⟨k.os.trans h.os,k.tape.trans h.tape,k.output.trans h.output,Nat.le_trans h.size k.size,fun i hi hne=>(k.block i (Nat.lt_of_lt_of_le hi h.size) hne).trans (h.block i hi (by simp))⟩
theorem grown3 (w:World) (a b c:Obj):w.grownBy (((w.alloc a).alloc b).alloc c) none:=grown_alloc (grown_alloc (grown_alloc (grown_refl w none) a) b) c
theorem row_set5 {U:World} {B:Nat} {z0 z1 z2 z3 z4:Value} {T:TypeId} (h:U.heap[B]? = some (.cells #[z0,z1,z2,z3,z4] T (0,0))) (a0 a1 a2 a3 a4:Value) :
   (((((U.setCell ⟨B,0,none⟩ a0).setCell ⟨B,1,none⟩ a1).setCell ⟨B,2,none⟩ a2).setCell ⟨B,3,none⟩ a3).setCell ⟨B,4,none⟩ a4).heap[B]? = some (.cells #[a0,a1,a2,a3,a4] T (0,0)) :=
 heap_setCell_same _ _ 4 _ _ a4 (heap_setCell_same _ _ 3 _ _ a3 (heap_setCell_same _ _ 2 _ _ a2 (heap_setCell_same _ _ 1 _ _ a1 (heap_setCell_same _ _ 0 _ _ a0 h))))
set_option maxRecDepth 100000 in
set_option maxHeartbeats 1000000 in
theorem after_put (k t:ByteArray) (h:Bool) (s:Int) (la:Option Addr) (ln lc:Nat) (T R:Int) (key val:ByteArray) (N:Int) (w:World) (hv:val.size≤140737488351232) :
   Calls Tryz.prog 108 #[.agg #[.string k,.bool h,.string t,.int .i64 s,.slice la ln lc],.agg #[.int .i64 T,.int .i64 R,.int .i64 1,.string key,.string val,.int .i64 N]] w fun e w' =>
     e=.returned (.agg #[.string k,.bool true,.string val,.int .i64 s,.slice la ln lc])∧w.grownBy w' none:=by
 have hne:¬ w.heap.size + 1 + 1=w.heap.size:=by omega
 have hne2:¬ w.heap.size=w.heap.size + 1 + 1:=by omega
 go_enter Tryz.func108,Tryz.ntmps108
 go_wp2_with (go_at_call 66;refine (clone_s val _ hv).mono ?_;rintro r w1 ⟨rfl,hb1⟩;have HB:=Lib.hid (grown_then (grown3 w _ _ _) (grown_of_below hb1));obtain ⟨p0,p1,p2,p3,p4,q0,q1,q2,q3,q4,r2,pf,qf⟩:=aft_of (grown_of_below hb1) (fun g e=>by cases e);have R2:=Lib.hid r2;have f1:=pf 1;have f2:=pf 2;have f3:=pf 3;have f4:=pf 4;have g0:=qf 0;have g1:=qf 1;have g2:=qf 2;have g3:=qf 3;have g4:=qf 4;clear hb1 pf qf r2)
 obtain ⟨U,hU⟩:∃ U,U=(w1.setCell ⟨w.heap.size,1,none⟩ (.bool true)).setCell ⟨w.heap.size,2,none⟩ (.string val):=⟨_,rfl⟩
 have hrow:U.heap[w.heap.size + 1 + 1]? = some (.cells #[.string ⟨#[]⟩,.bool false,.string ⟨#[]⟩,.int .i64 0,.slice none 0 0] 105 (0,0)):=by
   rw [hU,heap_setCell_other _ _ _ _ (by show _≠w.heap.size;omega),heap_setCell_other _ _ _ _ (by show _≠w.heap.size;omega)];exact R2.out
 have hgU:w.grownBy U none:=by rw [hU];exact grown_set (grown_set HB.out _ (by omega)) _ (by omega)
 rw [←hU]
 have hR:=row_set5 hrow (.string k) (.bool true) (.string val) (.int .i64 s) (.slice la ln lc)
 obtain ⟨W,hW⟩:∃ W,W=((((U.setCell ⟨w.heap.size + 1 + 1,0,none⟩ (.string k)).setCell ⟨w.heap.size + 1 + 1,1,none⟩ (.bool true)).setCell ⟨w.heap.size + 1 + 1,2,none⟩ (.string val)).setCell ⟨w.heap.size + 1 + 1,3,none⟩ (.int .i64 s)).setCell ⟨w.heap.size + 1 + 1,4,none⟩ (.slice la ln lc):=⟨_,rfl⟩
 have hgW:w.grownBy W none:=by rw [hW];exact grown_set (grown_set (grown_set (grown_set (grown_set hgU _ (by omega)) _ (by omega)) _ (by omega)) _ (by omega)) _ (by omega)
 rw [←hW] at hR ⊢
 clear hW hgU hrow hU p0 p1 p2 p3 p4 q0 q1 q2 q3 q4 f1 f2 f3 f4 g0 g1 g2 g3 g4
 refine bodyPost_ret (v:=.agg #[.string k,.bool true,.string val,.int .i64 s,.slice la ln lc]) (results_cell_row Tryz.results108 _ _ (w.heap.size + 1 + 1) 105 _ _ _ rfl hR Tryz.underlying105 rfl (cell_sized _ _ _ _ _)) rfl ?_
 exact ⟨rfl,hgW⟩
set_option maxRecDepth 100000 in
set_option maxHeartbeats 1000000 in
theorem after_drop (k t:ByteArray) (h:Bool) (s:Int) (la:Option Addr) (ln lc:Nat) (T R:Int) (key val:ByteArray) (N:Int) (w:World) :
   Calls Tryz.prog 108 #[.agg #[.string k,.bool h,.string t,.int .i64 s,.slice la ln lc],.agg #[.int .i64 T,.int .i64 R,.int .i64 2,.string key,.string val,.int .i64 N]] w fun e w' =>
     e=.returned (.agg #[.string ⟨#[]⟩,.bool false,.string ⟨#[]⟩,.int .i64 0,.slice none 0 0])∧w.grownBy w' none:=by
 have hne:¬ w.heap.size + 1 + 1=w.heap.size:=by omega
 have hne2:¬ w.heap.size=w.heap.size + 1 + 1:=by omega
 go_enter Tryz.func108,Tryz.ntmps108
 go_wp2
 refine bodyPost_ret (v:=.agg #[.string ⟨#[]⟩,.bool false,.string ⟨#[]⟩,.int .i64 0,.slice none 0 0]) (results_cell_row Tryz.results108 _ _ (w.heap.size + 1 + 1) 105 _ _ _ rfl (heap3 w _ _ _).2.2 Tryz.underlying105 rfl (cell_sized _ _ _ _ _)) rfl ?_
 exact ⟨rfl,grown3 w _ _ _⟩
set_option maxRecDepth 100000 in
set_option maxHeartbeats 1000000 in
theorem after_add (k t:ByteArray) (h:Bool) (s:Int) (la:Option Addr) (ln lc:Nat) (T R:Int) (key val:ByteArray) (N:Int) (w:World) :
   Calls Tryz.prog 108 #[.agg #[.string k,.bool h,.string t,.int .i64 s,.slice la ln lc],.agg #[.int .i64 T,.int .i64 R,.int .i64 3,.string key,.string val,.int .i64 N]] w fun e w' =>
     e=.returned (.agg #[.string k,.bool h,.string t,.int .i64 (wrap64 (s + N)),.slice la ln lc])∧w.grownBy w' none:=by
 have hne:¬ w.heap.size + 1 + 1=w.heap.size:=by omega
 have hne2:¬ w.heap.size=w.heap.size + 1 + 1:=by omega
 go_enter Tryz.func108,Tryz.ntmps108
 go_wp2
 refine bodyPost_ret (v:=.agg #[.string k,.bool h,.string t,.int .i64 (wrap64 (s + N)),.slice la ln lc]) (results_cell_row Tryz.results108 _ _ (w.heap.size + 1 + 1) 105 _ _ _ rfl (heap3 w _ _ _).2.2 Tryz.underlying105 rfl (cell_sized _ _ _ _ _)) rfl ?_
 exact ⟨rfl,grown3 w _ _ _⟩
end Go.Proofs.YtddbpnplbcjpgaaGreatDoor
namespace Go.Proofs.YtddbpnplbcjpgaaGreatDoor
structure LogS where
 rep:Int
 hv:List Ent
 ws:List Wr
structure LogOk (s:LogS):Prop where
 rep:0≤s.rep∧s.rep≤200
 hv:rightV s.hv
 srt:s.ws.Pairwise late
 mem:∀ x∈s.ws,wE x=0∧x.time≤ofF s.hv x.rep
 len:s.ws.length≤300
theorem log_new {r:Int} (h:0≤r∧r≤200):LogOk ⟨r,[],[]⟩:=⟨h,⟨by simp,trivial⟩,List.Pairwise.nil,fun x hx=>(by cases hx),by simp⟩
theorem wE_id {x:Wr} (h:wE x=0):1≤x.time∧x.time≤1099511627776∧0≤x.rep∧x.rep≤200:=by
 have h2:=(wriE_good (show wriE x.time x.rep x.kind x.key x.value x.n=0 from h)).2.1
 simpa [idOk] using h2
theorem late_lt {a b:Wr}:late a b↔a.time < b.time∨a.time=b.time∧a.rep < b.rep:=by
 rw [late_iff]
 unfold wid
 rw [cI_val]
 split
 · simp;assumption
 · split
   · simp;omega
   · simp;omega
theorem late_total {a b:Wr} (h:wid a≠wid b):late a b∨late b a:=by
 rw [late_lt,late_lt]
 unfold wid at h
 have:¬ (a.time=b.time∧a.rep=b.rep):=fun e=>h (by rw [e.1,e.2])
 omega
theorem late_ne {a b:Wr} (h:late a b):wid a≠wid b:=fun e=>by
 rw [late_lt] at h
 unfold wid at e
 simp only [Prod.mk.injEq] at e
 omega
theorem late_ext {x y:List Wr} (hx:x.Pairwise late) (hy:y.Pairwise late) (h:∀ c,c∈x↔c∈y):x=y:=by
 have nx:x.Nodup:=hx.imp (fun {a b} h (e:a=b)=>late_ne h (by rw [e]))
 have ny:y.Nodup:=hy.imp (fun {a b} h (e:a=b)=>late_ne h (by rw [e]))
 refine List.Perm.eq_of_pairwise (le:=late) ?_ hx hy ((List.perm_ext_iff_of_nodup nx ny).2 h)
 intro a b _ _ h1 h2
 exact absurd (late_trans h1 h2) (late_self a)
theorem late_ids {l:List Wr} (h:l.Pairwise late) {a b:Wr} (ha:a∈l) (hb:b∈l) (e:wid a=wid b):a=b:=by
 induction l with
 | nil=>cases ha
 | cons c r ih =>
   rw [List.pairwise_cons] at h
   rcases List.mem_cons.1 ha with ea | ha'
   · rcases List.mem_cons.1 hb with eb | hb'
     · rw [ea,eb]
     · exact absurd e (late_ne (by rw [ea];exact h.1 b hb'))
   · rcases List.mem_cons.1 hb with eb | hb'
     · exact absurd e.symm (late_ne (by rw [eb];exact h.1 a ha'))
     · exact ih h.2 ha' hb'
def leW (a b:Wr):Bool:=decide (a.time < b.time∨a.time=b.time∧a.rep≤b.rep)
def sortW (l:List Wr):List Wr:=l.mergeSort leW
theorem leW_trans (a b c:Wr) (h:leW a b=true) (k:leW b c=true):leW a c=true:=by
 unfold leW at *;simp only [decide_eq_true_eq] at *;omega
theorem leW_total (a b:Wr):(leW a b || leW b a)=true:=by
 unfold leW;simp only [Bool.or_eq_true,decide_eq_true_eq];omega
theorem sortW_perm (l:List Wr):(sortW l).Perm l:=List.mergeSort_perm _ _
theorem sortW_mem {l:List Wr} {x:Wr}:x∈sortW l↔x∈l:=(sortW_perm l).mem_iff
theorem sortW_len (l:List Wr):(sortW l).length=l.length:=(sortW_perm l).length_eq
def idsOk (l:List Wr):Prop:=l.Pairwise (fun a b=>wid a≠wid b)
theorem sortW_late {l:List Wr} (h:idsOk l):(sortW l).Pairwise late:=by
 have h1:(sortW l).Pairwise (fun a b=>leW a b=true):=List.pairwise_mergeSort leW_trans leW_total _
 have h2:(sortW l).Pairwise (fun a b=>wid a≠wid b):=(sortW_perm l).symm.pairwise h (fun h e=>h e.symm)
 refine (h1.and h2).imp ?_
 rintro a b ⟨h1,h2⟩
 rw [late_lt]
 unfold leW at h1
 unfold wid at h2
 simp only [decide_eq_true_eq] at h1
 have:¬ (a.time=b.time∧a.rep=b.rep):=fun e=>h2 (by rw [e.1,e.2])
 omega
theorem late_idsOk {l:List Wr} (h:l.Pairwise late):idsOk l:=h.imp late_ne
def sinceW (s:LogS) (f:List Ent):List Wr:=s.ws.filter (fun x=>decide (ofF f x.rep < x.time))
def topT (f:List Ent) (l:List Wr) (r:Int):Int:=l.foldl (fun a w=>if w.rep=r then max a w.time else a) (ofF f r)
def sinceB (s:LogS) (f:List Ent):List Wr:=if (sinceW s f).length≤60 then sinceW s f else (sinceW s f).take 60
def sinceH (s:LogS) (f:List Ent):List Ent:=if (sinceW s f).length≤60 then s.hv else tab (fun r=>topT f ((sinceW s f).take 60) (r:Int)) 201
def sinceE (s:LogS) (f:List Ent):Nat:=if (vrightF f).1≠0 then (vrightF f).1 else if covB s.hv f=false then 13 else 0
theorem topT_ge (r:Int) (l:List Wr):∀ a,a≤l.foldl (fun a w=>if w.rep=r then max a w.time else a) a∧∀ x∈l,x.rep=r→x.time≤l.foldl (fun a w=>if w.rep=r then max a w.time else a) a:=by
 induction l with
 | nil=>intro a;exact ⟨Int.le_refl _,fun x h=>(by cases h)⟩
 | cons w l ih =>
   intro a
   rw [List.foldl_cons]
   obtain ⟨h1,h2⟩:=ih (if w.rep=r then max a w.time else a)
   refine ⟨Int.le_trans ?_ h1,fun x hx hr=>?_⟩
   · split <;> omega
   · rcases List.mem_cons.1 hx with rfl | hx
     · refine Int.le_trans ?_ h1
       rw [if_pos hr];omega
     · exact h2 x hx hr
theorem topT_is (r:Int) (l:List Wr):∀ a,l.foldl (fun a w=>if w.rep=r then max a w.time else a) a=a∨∃ x∈l,x.rep=r∧l.foldl (fun a w=>if w.rep=r then max a w.time else a) a=x.time:=by
 induction l with
 | nil=>intro a;exact .inl rfl
 | cons w l ih =>
   intro a
   rw [List.foldl_cons]
   rcases ih (if w.rep=r then max a w.time else a) with h | ⟨x,hx,hr,h⟩
   · rw [h]
     split
     · rename_i hw
       rcases Int.le_total a w.time with h2 | h2
       · exact .inr ⟨w,List.mem_cons_self,hw,by omega⟩
       · exact .inl (by omega)
     · exact .inl rfl
   · exact .inr ⟨x,List.mem_cons_of_mem _ hx,hr,h⟩
theorem sinceW_mem {s:LogS} {f:List Ent} {x:Wr}:x∈sinceW s f↔x∈s.ws∧ofF f x.rep < x.time:=by
 unfold sinceW;rw [List.mem_filter];simp
theorem sinceW_late {s:LogS} (h:LogOk s) (f:List Ent):(sinceW s f).Pairwise late:=h.srt.filter _
theorem sinceB_len (s:LogS) (f:List Ent):(sinceB s f).length≤60:=by
 unfold sinceB
 split
 · assumption
 · rw [List.length_take];omega
theorem sinceB_sub (s:LogS) (f:List Ent):(sinceB s f).Sublist (sinceW s f):=by
 unfold sinceB
 split
 · exact List.Sublist.refl _
 · exact List.take_sublist _ _
structure SinceOk (s:LogS) (f h:List Ent) (b:List Wr):Prop where
 right:rightV h
 lo:∀ r,ofF f r≤ofF h r
 hi:∀ r,ofF h r≤ofF s.hv r
 mem:∀ x,x∈b↔x∈s.ws∧ofF f x.rep < x.time∧x.time≤ofF h x.rep
 srt:b.Pairwise late
 len:b.length≤60
 full:b.length=60∨h=s.hv
theorem since_ok {s:LogS} (hs:LogOk s) {f:List Ent} (hf:rightV f) (hc:covB s.hv f=true):SinceOk s f (sinceH s f) (sinceB s f):=by
 have hcv:=(covB_iff hs.hv hf).1 hc
 by_cases hl:(sinceW s f).length≤60
 · have eB:sinceB s f=sinceW s f:=by unfold sinceB;rw [if_pos hl]
   have eH:sinceH s f=s.hv:=by unfold sinceH;rw [if_pos hl]
   rw [eB,eH]
   refine ⟨hs.hv,hcv,fun _=>Int.le_refl _,fun x=>?_,sinceW_late hs f,hl,.inr rfl⟩
   rw [sinceW_mem]
   exact ⟨fun h=>⟨h.1,h.2,(hs.mem x h.1).2⟩,fun h=>⟨h.1,h.2.1⟩⟩
 · have eB:sinceB s f=(sinceW s f).take 60:=by unfold sinceB;rw [if_neg hl]
   have eH:sinceH s f=tab (fun r=>topT f ((sinceW s f).take 60) (r:Int)) 201:=by unfold sinceH;rw [if_neg hl]
   rw [eB,eH]
   obtain ⟨t,ht⟩:∃ t,t=(sinceW s f).take 60:=⟨_,rfl⟩
   have htl:t.length=60:=by rw [ht,List.length_take];omega
   have hts:t.Sublist (sinceW s f):=by rw [ht];exact List.take_sublist _ _
   have hmt:∀ x∈t,x∈s.ws∧ofF f x.rep < x.time:=fun x hx=>sinceW_mem.1 (hts.subset hx)
   have hpre:∀ x∈sinceW s f,∀ y∈t,late x y→x∈t:=by
     intro x hx y hy hxy
     have e:sinceW s f=t ++ (sinceW s f).drop 60:=by rw [ht,List.take_append_drop]
     have hp:=sinceW_late hs f
     rw [e,List.pairwise_append] at hp
     rw [e] at hx
     rcases List.mem_append.1 hx with h | h
     · exact h
     · exact absurd (late_trans hxy (hp.2.2 y hy x h)) (late_self x)
   rw [←ht]
   have hT:∀ r:Int,ofF f r≤topT f t r∧topT f t r≤ofF s.hv r:=by
     intro r
     refine ⟨(topT_ge r t _).1,?_⟩
     rcases topT_is r t (ofF f r) with h | ⟨x,hx,hr,h⟩
     · unfold topT;rw [h];exact hcv r
     · unfold topT;rw [h,←hr];exact (hs.mem x (hmt x hx).1).2
   have hof:∀ r,ofF (tab (fun r=>topT f t (r:Int)) 201) r=if 0≤r∧r≤200 then topT f t r else 0:=by
     intro r
     rw [ofF_tab]
     have h1:=hT r
     have h2:=ofF_bd hf.2 r
     by_cases hr:0≤r∧r≤200
     · have e:(r.toNat:Int)=r:=by omega
       rw [if_pos hr,e]
       split
       · rfl
       · omega
     · rw [if_neg hr,if_neg (by omega)]
   have hout:∀ r,¬ (0≤r∧r≤200)→ofF f r=0∧ofF s.hv r=0:=fun r hr=>⟨ofF_out hf.2 (by omega),ofF_out hs.hv.2 (by omega)⟩
   have hov:=tab_okV (f:=fun r=>topT f t (r:Int)) (fun r=>Int.le_trans (hT r).2 (ofF_bd hs.hv.2 _).2) (Nat.le_refl 201)
   have hhi:∀ r,ofF (tab (fun r=>topT f t (r:Int)) 201) r≤ofF s.hv r:=by
     intro r
     rw [hof]
     split
     · exact (hT r).2
     · rename_i hr;rw [(hout r hr).2];exact Int.le_refl _
   refine ⟨⟨?_,hov⟩,fun r=>?_,hhi,fun x=>?_,(sinceW_late hs f).sublist hts,by omega,.inl htl⟩
   · have hsub : ∀ e ∈ tab (fun r => topT f t (r : Int)) 201, ∃ d ∈ s.hv, d.rep = e.rep := by
       intro e he
       have h1:=ofF_mem hov he
       have h2:=okV_mem hov e he
       have h3:=hhi e.rep
       obtain ⟨d,hd,h4,_⟩:=ofF_has (l:=s.hv) (x:=e.rep) (by omega)
       exact ⟨d,hd,h4⟩
     have hnd:∀ {l:List Ent} {a:Int},okV a l→(l.map (·.rep)).Nodup:=by
       intro l
       induction l with
       | nil=>intro a _;exact List.nodup_nil
       | cons e r ih =>
         intro a h
         rw [List.map_cons,List.nodup_cons]
         refine ⟨fun hm=>?_,ih h.2⟩
         obtain ⟨d,hd,he⟩:=List.mem_map.1 hm
         have:=okV_mem h.2 d hd
         omega
     have h5:=(hnd hov).length_le_of_subset (l₂:=s.hv.map (·.rep)) (fun r hr=>by
       obtain ⟨e,he,rfl⟩:=List.mem_map.1 hr
       obtain ⟨d,hd,h6⟩:=hsub e he
       exact List.mem_map.2 ⟨d,hd,h6⟩)
     rw [List.length_map,List.length_map] at h5
     exact Nat.le_trans h5 hs.hv.1
   · rw [hof]
     split
     · exact (hT r).1
     · rename_i hr;rw [(hout r hr).1];exact Int.le_refl _
   · constructor
     · intro hx
       obtain ⟨h1,h2⟩:=hmt x hx
       have h3:=wE_id (hs.mem x h1).1
       refine ⟨h1,h2,?_⟩
       rw [hof,if_pos ⟨h3.2.2.1,h3.2.2.2⟩]
       exact (topT_ge x.rep t _).2 x hx rfl
     · rintro ⟨h1,h2,h3⟩
       have h4:=wE_id (hs.mem x h1).1
       rw [hof,if_pos ⟨h4.2.2.1,h4.2.2.2⟩] at h3
       have hxs:x∈sinceW s f:=sinceW_mem.2 ⟨h1,h2⟩
       rcases topT_is x.rep t (ofF f x.rep) with h | ⟨y,hy,hr,h⟩
       · unfold topT at h3;rw [h] at h3;omega
       · unfold topT at h3
         rw [h] at h3
         by_cases e:x.time=y.time
         · have:x=y:=late_ids hs.srt h1 (hmt y hy).1 (by unfold wid;rw [e,hr])
           rw [this];exact hy
         · exact hpre x hxs y hy (late_lt.2 (.inl (by omega)))
theorem since_right {s:LogS} (hs:LogOk s) {f h:List Ent} {b:List Wr} (hf:rightV f) (ho:SinceOk s f h b):rightB f h b:=by
 rw [rightB_iff]
 refine ⟨⟨hf,ho.right,(covB_iff ho.right hf).2 ho.lo⟩,ho.len,fun x hx=>?_,ho.srt⟩
 obtain ⟨h1,h2,h3⟩:=(ho.mem x).1 hx
 refine ⟨(hs.mem x h1).1,?_⟩
 unfold wiF wid
 simp [h2,h3]
end Go.Proofs.YtddbpnplbcjpgaaGreatDoor
namespace Go.Proofs.YtddbpnplbcjpgaaGreatDoor
open Go.RowKit Go.Maps
set_option maxRecDepth 100000 in
set_option maxHeartbeats 4000000 in
theorem sameone_any (k t:ByteArray) (h:Bool) (s:Int) (a a':Option Addr) (n c c':Nat) (l:List ByteArray) (w:World) (h1:IsTexts w (.slice a n c) l) (h2:IsTexts w (.slice a' n c') l) (hl:l.length≤1000000) :
   Calls Tryz.prog 53 #[.agg #[.string k,.bool h,.string t,.int .i64 s,.slice a n c],.agg #[.string k,.bool h,.string t,.int .i64 s,.slice a' n c']] w fun e w'=>e=.returned (.bool true)∧Below w.heap.size w w':=by
 have H1:=Lib.hid h1
 have H2:=Lib.hid h2
 have HL:=Lib.hid hl
 clear h1 h2 hl
 go_enter Tryz.func53,Tryz.ntmps53
 go_wp2_with (go_at_call 54;refine (teq_same _ _ l _ ((H1.out.alloc _).alloc _) ((H2.out.alloc _).alloc _) (by have:=HL.out;omega)).mono ?_;rintro r w1 ⟨rfl,q,rfl⟩)
 go_ret
 exact ⟨rfl,below_drewN (((Below.refl _ _).alloc (Nat.le_refl _) _).alloc (by simp) _) _⟩
set_option maxRecDepth 100000 in
set_option maxHeartbeats 4000000 in
theorem eqf_any (v v':Value) (z:List (ByteArray×Cel)) (w:World) (h:IsCells w v z) (h':IsCells w v' z) (hz:z.length≤1000000) (hzl:∀ p∈z,p.2.list.length≤1000000) :
   Calls Tryz.prog 52 #[v,v',.func (.func 53) #[] #[]] w fun e w'=>e=.returned (.bool true)∧Below w.heap.size w w':=by
 obtain ⟨zs,hv,hl,hc⟩:=h
 obtain ⟨zs',hv',hl',hc'⟩:=h'
 obtain ⟨a,cap,rfl,hf⟩:=hv.form
 obtain ⟨a',cap',rfl,hf'⟩:=hv'.form
 obtain ⟨n,hn⟩:∃ n,n=z.length:=⟨_,rfl⟩
 rw [hl',←hn]
 rw [hl,←hn]
 rw [←hn] at hz
 have HN:=Lib.hid hn
 have HF:=Lib.hid hf
 have HF':=Lib.hid hf'
 have HC:=Lib.hid hc
 have HC':=Lib.hid hc'
 have HLL:Hid (zs.length=n∧zs'.length=n):=Lib.hid ⟨by rw [hl,hn],by rw [hl',hn]⟩
 have HZL:=Lib.hid hzl
 clear hv hv' hl hl' hc hc' hf hf' hn hzl
 go_enter Tryz.func52,Tryz.ntmps52
 go_wp2
 go_loopw [17] (fun i wr=>∃ k:Nat,k≤n∧i=.int .i64 k∧Below w.heap.size w wr) (fun i _=>n - (intOf i).toNat)
 case atStart=>exact ⟨0,by omega,rfl,Below.refl _ _⟩
 case round =>
   obtain ⟨k,hk,rfl,hb⟩:=hrel
   have HB:=Lib.hid hb
   clear hb
   by_cases hlt:k < n
   · have b1:decide ((k:Int) < (n:Int))=true:=by simpa using hlt
     obtain ⟨x, hx⟩ : ∃ x, zs[k]? = some x := ⟨zs[k]'(by rw [HLL.out.1]; exact hlt), List.getElem?_eq_getElem _⟩
     obtain ⟨y, hy⟩ : ∃ y, zs'[k]? = some y := ⟨zs'[k]'(by rw [HLL.out.2]; exact hlt), List.getElem?_eq_getElem _⟩
     obtain ⟨b,off,rfl,hbl,c0,c1,c2,c3,c4⟩:=HF.out k x hx
     obtain ⟨b',off',rfl,hbl',d0,d1,d2,d3,d4⟩:=HF'.out k y hy
     obtain ⟨p,hp,e1,e2,e3,e4,e5⟩:=HC.out k x hx
     obtain ⟨p',hp',f1,f2,f3,f4,f5⟩:=HC'.out k y hy
     rw [hp] at hp'
     obtain rfl:=Option.some.inj hp'
     obtain ⟨kx,hxx,tx,sx,lx⟩:=x
     obtain ⟨ky,hyy,ty,sy,ly⟩:=y
     simp only at e1 e2 e3 e4 e5 f1 f2 f3 f4 f5 c0 c1 c2 c3 c4 d0 d1 d2 d3 d4
     obtain rfl:ky=kx:=f1.trans e1.symm
     obtain rfl:hyy=hxx:=f2.trans e2.symm
     obtain rfl:ty=tx:=f3.trans e3.symm
     obtain rfl:sy=sx:=f4.trans e4.symm
     obtain ⟨la,lc,rfl⟩:=e5.form
     obtain ⟨la',lc',rfl⟩:=f5.form
     have hq:=HZL.out p (List.mem_of_getElem? hp)
     obtain ⟨m,hm⟩:∃ m,m=p.2.list.length:=⟨_,rfl⟩
     rw [←hm] at c4 d4 e5 f5
     have hq2:p.2.list.length≤1000000:=hq
     have HQ:=Lib.hid hq2
     have E5:=Lib.hid e5
     have F5:=Lib.hid f5
     have up:∀ B,B < w.heap.size→∀ j u,w.cell? ⟨B,j,none⟩=some u→wr.cell? ⟨B,j,none⟩=some u:=fun B hB j u hu=>(HB.out.cell (p:=⟨B,j,none⟩) hB).trans hu
     have g0:=up _ hbl _ _ c0
     have g1:=up _ hbl _ _ c1
     have g2:=up _ hbl _ _ c2
     have g3:=up _ hbl _ _ c3
     have g4:=up _ hbl _ _ c4
     have i0:=up _ hbl' _ _ d0
     have i1:=up _ hbl' _ _ d1
     have i2:=up _ hbl' _ _ d2
     have i3:=up _ hbl' _ _ d3
     have i4:=up _ hbl' _ _ d4
     have hbr:b' < wr.heap.size:=Nat.lt_of_lt_of_le hbl' HB.out.size
     have hbn:¬ wr.heap.size=b':=by omega
     have hbn2:¬ b'=wr.heap.size:=by omega
     have HSZ:=Lib.hid HB.out.size
     clear up c0 c1 c2 c3 c4 d0 d1 d2 d3 d4 e1 e2 e3 e4 e5 f1 f2 f3 f4 f5 hp hx hy hbl hbl' hm hq hq2
     go_wp2_with (go_at_call 53;refine (sameone_any _ _ _ _ _ _ m _ _ p.2.list _ ((E5.out.below (HB.out.alloc HSZ.out _)).alloc _) ((F5.out.below (HB.out.alloc HSZ.out _)).alloc _) HQ.out).mono ?_;rintro r w3 ⟨rfl,hb3⟩;have HB3:=Lib.hid hb3;clear hb3)
     go_roundw
     · refine ⟨k + 1,by omega,by simp,((HB.out.alloc HSZ.out _).alloc (by simp;have:=HSZ.out;omega) _).trans (HB3.out.mono (by simp;have:=HSZ.out;omega))⟩
     · simp [intOf];omega
   · have b1:decide ((k:Int) < (n:Int))=false:=by simp;omega
     go_wp2
     go_ret
     exact ⟨rfl,HB.out⟩
set_option maxRecDepth 100000 in
theorem same_any (v v':Value) (z:List (ByteArray×Cel)) (w:World) (h:IsCells w v z) (h':IsCells w v' z) (hz:z.length≤1000000) (hzl:∀ p∈z,p.2.list.length≤1000000) :
   Calls Tryz.prog 20 #[v,v'] w fun e w'=>e=.returned (.bool true)∧Below w.heap.size w w':=by
 have HH:=Lib.hid h
 have HH':=Lib.hid h'
 have HZ:=Lib.hid hz
 have HZL:=Lib.hid hzl
 clear h h' hz hzl
 go_enter Tryz.func20,Tryz.ntmps20
 go_wp2_with (go_at_call 52;refine (eqf_any v v' z _ HH.out HH'.out HZ.out HZL.out).mono ?_;rintro r w3 ⟨rfl,hb3⟩;have HB3:=Lib.hid hb3;clear hb3)
 go_ret
 exact ⟨rfl,HB3.out⟩
end Go.Proofs.YtddbpnplbcjpgaaGreatDoor
