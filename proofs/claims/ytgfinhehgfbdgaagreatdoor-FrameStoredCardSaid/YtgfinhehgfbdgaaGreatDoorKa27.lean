import Derived.Test.YtgfinhehgfbdgaaGreatDoorKa25
import Derived.Test.YtgfinhehgfbdgaaGreatDoorKa19
namespace Go.Proofs.YtgfinhehgfbdgaaGreatDoor
open Go.RowKit
theorem wzag_zig (n:Int):zagN (zigN n)=n:=by unfold zigN zagN;split <;> split <;> omega
theorem wzig_zag {n:Int} (h0:0≤n):zigN (zagN n)=n:=by unfold zigN zagN;split <;> split <;> omega
theorem wspan (l more:List UInt8) (hl:l.length≤2000):getS (spanL l ++ more)=(l,(spanL l).length,0):=by
 unfold spanL
 rw [List.append_assoc,getS_ok (getL_put _ _ (by omega)) (by omega) (by simp)]
 simp
theorem wspan_only {l t:List UInt8} {k:Nat} (h:getS l=(t,k,0)):1≤k∧k≤l.length∧t.length≤2000∧spanL t=l.take k:=by
 rcases getL_cases l with ⟨e,hg,he⟩ | ⟨n,j,hg,hn,hk1,hk2,hk3⟩
 · rw [getS_bad hg he] at h;simp only [Prod.mk.injEq] at h;omega
 · by_cases h2:2000 < n
   · rw [getS_big hg h2] at h;simp at h
   · by_cases h3:l.length < j + n
     · rw [getS_miss hg h2 h3] at h;simp at h
     · rw [getS_ok hg h2 h3] at h
       simp only [Prod.mk.injEq] at h
       obtain ⟨rfl,rfl,_⟩:=h
       obtain ⟨_,_,hp⟩:=getL_only hg
       have hl:((l.drop j).take n).length=n:=by simp;omega
       refine ⟨by omega,by omega,by omega,?_⟩
       unfold spanL
       rw [hl,hp,←List.take_add]
theorem back_n {T R K:Int} {key val:ByteArray} {N:Int} (h:wriE T R K key val N=0) (x:List UInt8):getN K ((numB K N).data.toList ++ x)=(N,(numB K N).size,0):=by
 obtain ⟨g1,g2,g3,g4,g5,g6⟩:=wriE_good h
 unfold numB getN
 unfold fitsN at g6
 by_cases h3:K=3
 · subst h3
   rw [if_pos rfl] at g6 ⊢
   rw [if_pos rfl]
   simp only [Bool.and_eq_true,decide_eq_true_eq] at g6
   have hz:=zigN_of g6.1 g6.2
   rw [bs_data,bs_size,getL_put _ _ (by omega)]
   simp only
   rw [Int.toNat_of_nonneg hz.1,wzag_zig]
 · rw [if_neg h3] at g6
   rw [if_neg h3,if_neg h3]
   by_cases h4:K=4
   · subst h4
     rw [if_pos rfl] at g6
     rw [if_pos rfl,if_pos rfl]
     simp only [Bool.and_eq_true,decide_eq_true_eq] at g6
     rw [bs_data,bs_size,intL_ok (getL_put _ _ (by omega)) (by omega)]
     simp only
     rw [Int.toNat_of_nonneg g6.1]
   · rw [if_neg h4,if_neg h4]
     have hn:N=0:=by
       by_cases hN:N=0
       · exact hN
       · exact absurd (.inr ⟨hN,by unfold hasN;rw [decide_eq_false h3,decide_eq_false h4];rfl⟩) g5
     rw [hn];rfl
theorem back_v {T R K:Int} {key val:ByteArray} {N:Int} (h:wriE T R K key val N=0) (x:List UInt8):getV K ((valB K val).data.toList ++ x)=(val.data.toList,(valB K val).size,0):=by
 obtain ⟨g1,g2,g3,g4,g5,g6⟩:=wriE_good h
 unfold valB getV
 cases hV:hasV K with
 | true =>
   rw [if_pos rfl,if_pos rfl,spanB_data,wspan _ _ (by rw [←size_data];omega),spanB_size]
   unfold spanL
   rw [List.length_append,←size_data]
 | false =>
   rw [if_neg (by decide),if_neg (by decide)]
   have hz:¬ 0 < val.size:=fun hz=>g5 (.inl ⟨hz,hV⟩)
   rw [empty_of hz];rfl
theorem back_d (K:Int) (val:ByteArray) (N:Int) (x:List UInt8):((tailB K val N).data.toList ++ x).drop (numB K N).size=(valB K val).data.toList ++ x:=by
 unfold tailB
 rw [app_data,List.append_assoc,size_data,List.drop_left]
theorem back_t (K:Int) (val:ByteArray) (N:Int):(tailB K val N).size=(numB K N).size + (valB K val).size:=by unfold tailB;rw [app_size]
theorem only_n {K:Int} {l:List UInt8} {n:Int} {k:Nat} (h:getN K l=(n,k,0)):(numB K n).data.toList=l.take k∧k≤l.length:=by
 unfold getN at h
 unfold numB
 by_cases h3:K=3
 · rw [if_pos h3] at h ⊢
   obtain ⟨m,j,e,hg⟩:∃ m j e,getL l=(m,j,e):=⟨_,_,_,rfl⟩
   rw [hg] at h
   simp only [Prod.mk.injEq] at h
   obtain ⟨rfl,rfl,rfl⟩:=h
   have:=getL_only hg
   rw [bs_data,wzig_zag (by omega),Int.toNat_natCast]
   exact ⟨this.2.2,this.2.1⟩
 · rw [if_neg h3] at h ⊢
   by_cases h4:K=4
   · rw [if_pos h4] at h ⊢
     rcases getL_cases l with ⟨e,hg,he⟩ | ⟨m,j,hg,_⟩
     · rw [intL_bad hg he] at h
       simp only [Prod.mk.injEq] at h
       exact absurd h.2.2 he
     · by_cases hm:(1000:Int) < 0∨(1000:Int) < m
       · rw [intL_range hg hm] at h;simp at h
       · rw [intL_ok hg hm] at h
         simp only [Prod.mk.injEq] at h
         obtain ⟨rfl,rfl,_⟩:=h
         have:=getL_only hg
         rw [bs_data,Int.toNat_natCast]
         exact ⟨this.2.2,this.2.1⟩
   · rw [if_neg h4] at h ⊢
     simp only [Prod.mk.injEq] at h
     obtain ⟨_,rfl,_⟩:=h
     exact ⟨by rw [List.take_zero],Nat.zero_le _⟩
theorem only_v {K:Int} {l v:List UInt8} {j:Nat} (h:getV K l=(v,j,0)):(valB K ⟨v.toArray⟩).data.toList=l.take j∧j≤l.length:=by
 unfold getV at h
 unfold valB
 cases hV:hasV K with
 | true =>
   rw [hV,if_pos rfl] at h
   rw [if_pos rfl,spanB_data,bs_data]
   have:=wspan_only h
   exact ⟨this.2.2.2,this.2.1⟩
 | false =>
   rw [hV,if_neg (by decide)] at h
   rw [if_neg (by decide)]
   simp only [Prod.mk.injEq] at h
   obtain ⟨_,rfl,_⟩:=h
   exact ⟨by rw [List.take_zero],Nat.zero_le _⟩
theorem only_t {K:Int} {l v:List UInt8} {n:Int} {k j:Nat} (h:getN K l=(n,k,0)) (h2:getV K (l.drop k)=(v,j,0)):(tailB K ⟨v.toArray⟩ n).data.toList=l.take (k + j)∧k + j≤l.length:=by
 obtain ⟨a1,a2⟩:=only_n h
 obtain ⟨b1,b2⟩:=only_v h2
 rw [List.length_drop] at b2
 unfold tailB
 rw [app_data,a1,b1]
 refine ⟨?_,by omega⟩
 rw [List.take_add]
end Go.Proofs.YtgfinhehgfbdgaaGreatDoor
namespace Go.Proofs.YtgfinhehgfbdgaaGreatDoor
open Go.RowKit
theorem ofF_drop {l:List Ent} {k:Nat} {t:Ent} (h:l[k]? = some t) (x:Int):ofF (l.drop k) x=if t.rep=x then t.time else ofF (l.drop (k + 1)) x:=by
 obtain ⟨hk,ht⟩:=List.getElem?_eq_some_iff.1 h
 rw [List.drop_eq_getElem_cons hk,ht];rfl
set_option maxRecDepth 100000 in
set_option maxHeartbeats 2000000 in
theorem vof_any (v:Value) (l:List Ent) (x:Int) (w:World) (hv:IsEnts w v l) (hl:l.length≤9223372036854775807) :
   Calls Tryz.prog 156 #[v,.int .i64 x] w fun r w'=>r=.returned (.int .i64 (ofF l x))∧Below w.heap.size w w':=by
 obtain ⟨a1,c1,rfl,f1⟩:=hv.form
 have F1:=Lib.hid f1
 obtain ⟨n,hn⟩:∃ n,n=l.length:=⟨_,rfl⟩
 rw [←hn] at hl ⊢
 have HN:=Lib.hid hn
 clear hv f1 hn
 go_enter Tryz.func156,Tryz.ntmps156
 go_wp2
 go_loopw [9] (fun i wr=>∃ k:Nat,k≤n∧i=.int .i64 k∧ofF l x=ofF (l.drop k) x∧Below w.heap.size w wr) (fun i _=>n - (intOf i).toNat)
 case atStart=>exact ⟨0,by omega,rfl,rfl,Below.refl _ _⟩
 case round =>
   obtain ⟨k,hk,rfl,heq,hbel⟩:=hrel
   have HEQ:=Lib.hid heq
   have HB:=Lib.hid hbel
   have hzr:=hbel.size
   clear heq hbel
   by_cases hlt:k < n
   · obtain ⟨t, ht⟩ : ∃ t, l[k]? = some t := ⟨l[k]'(by have := HN.out; omega), List.getElem?_eq_getElem _⟩
     obtain ⟨b1,o1,rfl,hb1,p0,p1⟩:=F1.out k t ht
     have hd:=ofF_drop ht x
     obtain ⟨rep,time⟩:=t
     simp only at p0 p1 hd
     have q0:=(HB.out.cell (p:=⟨b1,o1 + k * 2,none⟩) hb1).trans p0
     have q1:=(HB.out.cell (p:=⟨b1,o1 + k * 2 + 1,none⟩) hb1).trans p1
     by_cases hx:rep=x
     · have HW:Hid (ofF l x=time):=Lib.hid (show ofF l x=time by rw [HEQ.out,hd,if_pos hx])
       clear p0 p1 ht hd
       subst hx
       go_wp2
       go_ret
       exact ⟨by rw [HW.out];rfl,HB.out.alloc hzr _⟩
     · have HW:Hid (ofF l x=ofF (l.drop (k + 1)) x):=Lib.hid (show ofF l x=ofF (l.drop (k + 1)) x by rw [HEQ.out,hd,if_neg hx])
       have bx:(rep == x)=false:=by simpa using hx
       clear p0 p1 ht hd
       go_wp2
       go_roundw
       case rel=>exact ⟨k + 1,by omega,by go_num,HW.out,HB.out.alloc hzr _⟩
       case measure=>simp [intOf];omega
   · have HW:Hid (ofF l x=0):=Lib.hid (show ofF l x=0 by rw [HEQ.out,List.drop_eq_nil_of_le (by have:=HN.out;omega)];rfl)
     go_wp2
     go_ret
     exact ⟨by rw [HW.out];rfl,HB.out⟩
def noV (e:Nat):Value:=if e=0 then .nilIface else .iface 27 (.int .i64 (e:Nat))
theorem noV_0:noV 0=.nilIface:=rfl
theorem noV_e {e:Nat} (h:e≠0):noV e=.iface 27 (.int .i64 (e:Nat)):=by unfold noV;rw [if_neg h]
set_option maxRecDepth 100000 in
set_option maxHeartbeats 1000000 in
theorem vbare_any (v:Value) (l:List Ent) (w:World) (hv:IsEnts w v l) (hl:l.length≤9223372036854775807) (hg:errT w) :
   Calls Tryz.prog 185 #[v] w fun r w'=>r=.returned (noV (vrightF l).1)∧Below w.heap.size w w':=by
 have HV:=Lib.hid hv
 have HG:=Lib.hid hg
 obtain ⟨a1,c1,rfl,_⟩:=hv.form
 obtain ⟨n,hn⟩:∃ n,n=l.length:=⟨_,rfl⟩
 have HL:=Lib.hid hl
 rw [←hn] at HV ⊢
 clear hv hg hn hl
 by_cases h0:(vrightF l).1=0
 · have H0:=Lib.hid h0
   clear h0
   rw [H0.out]
   go_enter Tryz.func185,Tryz.ntmps185
   go_wp2_with fail
   refine (vright_any _ l _ HV.out HL.out).mono ?_
   rintro r w1 ⟨err,rfl,hat,hb1⟩
   obtain rfl:=hat.nil H0.out
   have HB1:=Lib.hid hb1
   clear hat hb1
   go_wp2
   go_ret
   exact ⟨rfl,HB1.out⟩
 · have H0:=Lib.hid h0
   have HQ:=Lib.hid (noV_e h0)
   clear h0
   go_enter Tryz.func185,Tryz.ntmps185
   go_wp2_with fail
   refine (vright_any _ l _ HV.out HL.out).mono ?_
   rintro r w1 ⟨err,rfl,hat,hb1⟩
   have HE:=Lib.hid (hat.isErr H0.out)
   obtain ⟨t,u,rfl⟩:=hat.iface H0.out
   have HB1:=Lib.hid hb1
   have HG1:=Lib.hid (HG.out.below hb1)
   clear hat hb1
   go_wp2_with fail
   refine (tell_err _ _ _ HG1.out HE.out).mono ?_
   rintro r w2 ⟨rfl,hb2⟩
   have HB2:Hid (Below w.heap.size w w2):=HB1.out.trans (hb2.mono HB1.out.size)
   clear hb2
   go_wp2
   go_ret
   exact ⟨by rw [HQ.out];rfl,HB2.out⟩
end Go.Proofs.YtgfinhehgfbdgaaGreatDoor
