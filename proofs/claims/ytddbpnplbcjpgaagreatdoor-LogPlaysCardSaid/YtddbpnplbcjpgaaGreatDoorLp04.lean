import Derived.Test.YtddbpnplbcjpgaaGreatDoorLp03
import Derived.Deep.QuietTactic
import Derived.Deep.RegionHeld3
import Derived.StillTailTactics
namespace Go.Proofs.YtddbpnplbcjpgaaGreatDoor
open Go.RowKit
theorem IsTexts.row {w:World} {a:Option Addr} {n cap:Nat} {l:List ByteArray} (h:IsTexts w (.slice a n cap) l):n=l.length∧(l=[]∨∃ b off,a=some ⟨b,off,none⟩∧b < w.heap.size∧∀ j,j < l.length→w.cell? ⟨b,off + j,none⟩=some (.string (l.getD j ByteArray.empty))):=by
 obtain ⟨a',cap',h1,_,h3⟩:=h
 obtain ⟨rfl,rfl,rfl⟩:=Value.slice.inj h1
 refine ⟨rfl,?_⟩
 cases l with
 | nil=>exact .inl rfl
 | cons s r =>
   right
   obtain ⟨b,off,rfl,hb,_⟩:=h3 0 s rfl
   refine ⟨b,off,rfl,hb,fun j hj=>?_⟩
   obtain ⟨b2,off2,e,_,hc⟩:=h3 j _ (List.getElem?_eq_getElem hj)
   simp only [Option.some.injEq,Addr.mk.injEq,and_true] at e
   obtain ⟨rfl,rfl⟩:=e
   rw [hc]
   simp [List.getElem?_eq_getElem hj]
theorem IsNums.row {w:World} {a:Option Addr} {n cap:Nat} {l:List Int} (h:IsNums w (.slice a n cap) l):n=l.length∧(l=[]∨∃ b off,a=some ⟨b,off,none⟩∧b < w.heap.size∧∀ j,j < l.length→w.cell? ⟨b,off + j,none⟩=some (.int .i64 (l.getD j 0))):=by
 obtain ⟨a',cap',h1,_,h3⟩:=h
 obtain ⟨rfl,rfl,rfl⟩:=Value.slice.inj h1
 refine ⟨rfl,?_⟩
 cases l with
 | nil=>exact .inl rfl
 | cons s r =>
   right
   obtain ⟨b,off,rfl,hb,_⟩:=h3 0 s rfl
   refine ⟨b,off,rfl,hb,fun j hj=>?_⟩
   obtain ⟨b2,off2,e,_,hc⟩:=h3 j _ (List.getElem?_eq_getElem hj)
   simp only [Option.some.injEq,Addr.mk.injEq,and_true] at e
   obtain ⟨rfl,rfl⟩:=e
   rw [hc]
   simp [List.getElem?_eq_getElem hj]
theorem IsTexts.form {w:World} {v:Value} {l:List ByteArray} (h:IsTexts w v l):∃ a cap,v=.slice a l.length cap:=by
 obtain ⟨a,cap,h1,_⟩:=h;exact ⟨a,cap,h1⟩
theorem IsNums.form {w:World} {v:Value} {l:List Int} (h:IsNums w v l):∃ a cap,v=.slice a l.length cap:=by
 obtain ⟨a,cap,h1,_⟩:=h;exact ⟨a,cap,h1⟩
theorem teq_any (v v':Value) (l l':List ByteArray) (w:World) (h:IsTexts w v l) (h':IsTexts w v' l') (hl:l.length≤9223372036854775807) (hl':l'.length≤9223372036854775807) :
   Calls Tryz.prog 54 #[v,v'] w fun e w'=>e=.returned (.bool (decide (l=l')))∧∃ q,w'=w.drewN q:=by
 obtain ⟨a,c,rfl⟩:=h.form
 obtain ⟨a',c',rfl⟩:=h'.form
 rcases h.row.2 with rfl | ⟨b,off,rfl,_,hc⟩
 · refine (Tryz.slices_Equal_string_empty a a' c l'.length c' w hl').mono fun e w' ⟨h1,h2⟩=>⟨?_,0,h2⟩
   rw [h1]
   cases l' <;> simp
 · by_cases hn:l.length=l'.length
   · rcases h'.row.2 with rfl | ⟨b',off',rfl,_,hc'⟩
     · have e:l=[]:=List.length_eq_zero_iff.1 hn
       subst e
       refine (Tryz.slices_Equal_string_empty (some ⟨b,off,none⟩) a' c 0 c' w (by decide)).mono fun e w' ⟨h1,h2⟩=>⟨h1.trans (by simp),0,h2⟩
     · refine (Tryz.slices_Equal_string b off l.length c b' off' l'.length c' l l' w (Nat.le_refl _) (Nat.le_refl _) hl hl' hc hc').mono fun e w' ⟨h1,h2⟩=>⟨?_,h2⟩
       rw [h1,List.take_length,List.take_length]
   · refine (Tryz.slices_Equal_string_lens (some ⟨b,off,none⟩) a' l.length c l'.length c' w hn).mono fun e w' ⟨h1,h2⟩=>⟨?_,0,h2⟩
     rw [h1,decide_eq_false (fun e=>hn (by rw [e]))]
theorem teq_same (v v':Value) (l:List ByteArray) (w:World) (h:IsTexts w v l) (h':IsTexts w v' l) (hl:l.length≤9223372036854775807) :
   Calls Tryz.prog 54 #[v,v'] w fun e w'=>e=.returned (.bool true)∧∃ q,w'=w.drewN q :=
 (teq_any v v' l l w h h' hl hl).mono fun e w' ⟨h1,h2⟩=>⟨by rw [h1,decide_eq_true rfl],h2⟩
end Go.Proofs.YtddbpnplbcjpgaaGreatDoor
namespace Go.Proofs.YtddbpnplbcjpgaaGreatDoor
open Go.RowKit
def TabIs (w:World) (l:List ByteArray) (e:Ending) (w':World):Prop :=
 ∃ v1 v2,e=.returned (.tuple #[v1,v2])∧ownsS w' w.heap.size v1 (tabK [] l)∧ownsN w' w.heap.size v2 (atK [] l)∧Below w.heap.size w w'
end Go.Proofs.YtddbpnplbcjpgaaGreatDoor
namespace Go.Proofs.YtddbpnplbcjpgaaGreatDoor
open Go.RowKit
theorem ofF_dropI {l:List Ent} {k:Nat} {t:Ent} (h:l[k]? = some t) (x:Int):ofF (l.drop k) x=if t.rep=x then t.time else ofF (l.drop (k + 1)) x:=by
 obtain ⟨hk,ht⟩:=List.getElem?_eq_some_iff.1 h
 rw [List.drop_eq_getElem_cons hk,ht];rfl
set_option maxRecDepth 100000 in
set_option maxHeartbeats 2000000 in
theorem vofI_any (v:Value) (l:List Ent) (x:Int) (w:World) (hv:IsEnts w v l) (hl:l.length≤9223372036854775807) :
   Calls Tryz.prog 70 #[v,.int .i64 x] w fun r w'=>r=.returned (.int .i64 (ofF l x))∧Below w.heap.size w w':=by
 obtain ⟨a1,c1,rfl,f1⟩:=hv.form
 have F1:=Lib.hid f1
 obtain ⟨n,hn⟩:∃ n,n=l.length:=⟨_,rfl⟩
 rw [←hn] at hl ⊢
 have HN:=Lib.hid hn
 clear hv f1 hn
 go_enter Tryz.func70,Tryz.ntmps70
 go_wp2
 go_loopw [9] (fun i wr=>∃ k:Nat,k≤n∧i=.int .i64 k∧ofF l x=ofF (l.drop k) x∧Below w.heap.size w wr) (fun i _=>n - (intOf i).toNat)
 case atStart=>exact ⟨0,by omega,rfl,rfl,Below.refl _ _⟩
 case round =>
   obtain ⟨k,hk,rfl,heq,hbel⟩:=hrel
   have HEQ:=Lib.hid heq
   have HB:=Lib.hid hbel
   have hzr:=hbel.size
   clear heq hbel
   by_cases hlt:k < n
   · obtain ⟨t, ht⟩ : ∃ t, l[k]? = some t := ⟨l[k]'(by have := HN.out; omega), List.getElem?_eq_getElem _⟩
     obtain ⟨b1,o1,rfl,hb1,p0,p1⟩:=F1.out k t ht
     have hd:=ofF_dropI ht x
     obtain ⟨rep,time⟩:=t
     simp only at p0 p1 hd
     have q0:=(HB.out.cell (p:=⟨b1,o1 + k * 2,none⟩) hb1).trans p0
     have q1:=(HB.out.cell (p:=⟨b1,o1 + k * 2 + 1,none⟩) hb1).trans p1
     by_cases hx:rep=x
     · have HW:Hid (ofF l x=time):=Lib.hid (show ofF l x=time by rw [HEQ.out,hd,if_pos hx])
       clear p0 p1 ht hd
       subst hx
       go_wp2
       go_ret
       exact ⟨by rw [HW.out];rfl,HB.out.alloc hzr _⟩
     · have HW:Hid (ofF l x=ofF (l.drop (k + 1)) x):=Lib.hid (show ofF l x=ofF (l.drop (k + 1)) x by rw [HEQ.out,hd,if_neg hx])
       have bx:(rep == x)=false:=by simpa using hx
       clear p0 p1 ht hd
       go_wp2
       go_roundw
       case rel=>exact ⟨k + 1,by omega,by go_num,HW.out,HB.out.alloc hzr _⟩
       case measure=>simp [intOf];omega
   · have HW:Hid (ofF l x=0):=Lib.hid (show ofF l x=0 by rw [HEQ.out,List.drop_eq_nil_of_le (by have:=HN.out;omega)];rfl)
     go_wp2
     go_ret
     exact ⟨by rw [HW.out];rfl,HB.out⟩
set_option maxRecDepth 100000 in
set_option maxHeartbeats 2000000 in
theorem rofI_any (v:Value) (l:List Ent) (x:Int) (w:World) (hv:IsEnts w v l) (hl:l.length≤9223372036854775807) :
   Calls Tryz.prog 40 #[v,.int .i64 x] w fun r w'=>r=.returned (.int .i64 (ofF l x))∧w=w':=by
 obtain ⟨a1,c1,rfl,f1⟩:=hv.form
 have F1:=Lib.hid f1
 obtain ⟨n,hn⟩:∃ n,n=l.length:=⟨_,rfl⟩
 rw [←hn] at hl ⊢
 have HN:=Lib.hid hn
 clear hv f1 hn
 go_enter Tryz.func40,Tryz.ntmps40
 go_wp2
 go_loop [8] (fun i=>∃ k:Nat,k≤n∧i=.int .i64 k∧ofF l x=ofF (l.drop k) x) (fun i=>n - (intOf i).toNat)
 case atStart=>exact ⟨0,by omega,rfl,rfl⟩
 case round =>
   obtain ⟨k,hk,rfl,heq⟩:=hrel
   have HEQ:=Lib.hid heq
   clear heq
   by_cases hlt:k < n
   · obtain ⟨t, ht⟩ : ∃ t, l[k]? = some t := ⟨l[k]'(by have := HN.out; omega), List.getElem?_eq_getElem _⟩
     obtain ⟨b1,o1,rfl,hb1,p0,p1⟩:=F1.out k t ht
     have hd:=ofF_dropI ht x
     obtain ⟨rep,time⟩:=t
     simp only at p0 p1 hd
     by_cases hx:rep=x
     · have HW:Hid (ofF l x=time):=Lib.hid (show ofF l x=time by rw [HEQ.out,hd,if_pos hx])
       clear ht hd
       subst hx
       go_wp2
       go_ret
       exact ⟨by rw [HW.out];rfl,rfl⟩
     · have HW:Hid (ofF l x=ofF (l.drop (k + 1)) x):=Lib.hid (show ofF l x=ofF (l.drop (k + 1)) x by rw [HEQ.out,hd,if_neg hx])
       have bx:(rep == x)=false:=by simpa using hx
       clear ht hd
       go_wp2
       go_round
       case rel=>exact ⟨k + 1,by omega,by go_num,HW.out⟩
       case measure=>simp [intOf];omega
   · have HW:Hid (ofF l x=0):=Lib.hid (show ofF l x=0 by rw [HEQ.out,List.drop_eq_nil_of_le (by have:=HN.out;omega)];rfl)
     go_wp2
     go_ret
     exact ⟨by rw [HW.out];rfl,rfl⟩
theorem vofI_as (v:Value) (l:List Ent) (x y:Int) (w:World) (hv:IsEnts w v l) (hl:l.length≤9223372036854775807) (h:ofF l x=y) :
   Calls Tryz.prog 70 #[v,.int .i64 x] w fun r w'=>r=.returned (.int .i64 y)∧Below w.heap.size w w':=by
 subst h;exact vofI_any v l x w hv hl
theorem rofI_q (v:Value) (l:List Ent) (x y:Int) (w:World) (n:Nat) (hv:IsEnts w v l) (hl:l.length≤9223372036854775807) (h:ofF l x=y) :
   Calls Tryz.prog 40 #[v,.int .i64 x] (w.drewN n) fun r w'=>r=.returned (.int .i64 y)∧∃ m,w'=w.drewN m :=
 (rofI_any v l x (w.drewN n) (hv.drewN n) hl).mono fun _ _ ⟨h1,h2⟩=>⟨by rw [h1,h],n,h2.symm⟩
end Go.Proofs.YtddbpnplbcjpgaaGreatDoor
namespace Go.Proofs.YtddbpnplbcjpgaaGreatDoor
open Go.ChangeShapes Go.WideShapes Go.ChangeAt Go.RowKit
instance : Inhabited Ent := ⟨⟨0, 0⟩⟩
theorem two_fields {H:Type} {enc:TypeId×Value→H} {P:Program} {W:World} {spare:Nat→Bool} {held:Bool} {n:Nat} {t:TypeId} {cs:List Value} {x:DataW H×List MemPlace} {p q:Field}
   (ht:P.underlying t=some (.struct #[p,q])) (h1:Go.Deep.oneCellFields P #[p,q]=true) (h3:P.cellsOf t=2)
   (h:DataW.trod enc P W 0 spare held n t cs=some x) :
   ∃ (a b:Value) (u v:DataW H×List MemPlace) (m:Nat),cs=[a,b]∧x.1=.agg [u.1,v.1] ∧
     DataW.trod enc P W 0 spare held m p.type [a]=some u∧DataW.trod enc P W 0 spare held m q.type [b]=some v:=by
 obtain ⟨xs,m,_,hx,hl,hxl,hf⟩:=DataW.trod_struct ht h
 rw [h3] at hl
 have hxl':xs.length=2:=hxl
 match cs,hl with
 | [a,b],_ =>
   match xs,hxl' with
   | [u,v],_ =>
     have one:=Go.Deep.hone_of h1
     have g0:=hf 0 p rfl
     have g1:=hf 1 q rfl
     rw [(one 0 p rfl).1,(one 0 p rfl).2] at g0
     rw [(one 1 q rfl).1,(one 1 q rfl).2] at g1
     exact ⟨a,b,u,v,m,rfl,by rw [hx];rfl,g0,g1⟩
theorem ent_elem {H:Type} {enc:TypeId×Value→H} {W:World} {spare:Nat→Bool} {held:Bool} {n:Nat} {cs:List Value} {x:DataW H×List MemPlace}
   (h:DataW.trod enc Tryz.prog W 0 spare held n 62 cs=some x):∃ t:Ent,cs=entC t:=by
 obtain ⟨a,b,u,v,m,rfl,hx,g0,g1⟩:=two_fields Tryz.underlying62 (by kernel_rfl) (by kernel_rfl) h
 obtain ⟨k,e0,f0,_⟩:=DataW.trod_int Tryz.underlying3 g0
 obtain ⟨z,e1,f1,_⟩:=DataW.trod_int Tryz.underlying3 g1
 have e0':a=.int .i64 k:=List.head_eq_of_cons_eq e0
 have e1':b=.int .i64 z:=List.head_eq_of_cons_eq e1
 exact ⟨⟨k,z⟩,by rw [e0',e1'];rfl⟩
theorem entsArg {H:Type} {enc:TypeId×Value→H} {W:World} {spare:Nat→Bool} {held:Bool} {a0:Option Addr} {len0 cap0 fuel:Nat} {d:DataW H} {p:List MemPlace}
   (hf:DataW.trod enc Tryz.prog W 0 spare held fuel 27 [.slice a0 len0 cap0]=some (d,p)) :
   ∃ l:List Ent,IsEnts W (.slice a0 len0 cap0) l∧l.length=len0∧len0≤cap0∧cap0≤maxLen:=by
 rcases Go.Deep.open_slice Tryz.underlying27 hf with ⟨hcs,_⟩ | ⟨a,ln,cp,m,n,D,Pl,hcs,_,hl,hm,hmm,hx,hi⟩
 · simp only [List.cons.injEq,Value.slice.injEq,and_true] at hcs
   obtain ⟨rfl,rfl,rfl⟩:=hcs
   exact ⟨[],.inl ⟨_,_,rfl,rfl⟩,rfl,Nat.le_refl _,by unfold maxLen;omega⟩
 · simp only [List.cons.injEq,Value.slice.injEq,and_true] at hcs
   obtain ⟨rfl,rfl,rfl⟩:=hcs
   have h3:Tryz.prog.cellsOf 62=2:=by kernel_rfl
   rw [h3] at hi
   have hle:len0≤m:=by rw [hmm];split <;> omega
   obtain ⟨f,hfc⟩:=Go.Deep.choose_lt (n:=len0) (p:=fun i (t:Ent)=>W.cells? 0 (a.add (i * 2)) 2=some (entC t)) (fun i hlt=>by
     obtain ⟨cs',hc,ht⟩:=hi i (by omega)
     obtain ⟨t,h1⟩:=ent_elem ht
     exact ⟨t,by rw [hc,h1]⟩)
   have hll:((List.range len0).map f).length=len0:=by simp
   refine ⟨(List.range len0).map f,?_,hll,hl,hm⟩
   by_cases hz:len0=0
   · subst hz;exact .inl ⟨_,_,rfl,rfl⟩
   · obtain ⟨b,off,spot⟩:=a
     have hcell:∀ i,i < len0→∀ r,r < 2→W.cell? ((⟨b,off,spot⟩:Addr).add (i * 2 + r))=(entC (f i))[r]? := fun i hlt r hr=>by
       obtain ⟨_,_,hat⟩:=World.cells?_some (hfc i hlt)
       rw [←Go.Deep.add_add];exact hat r hr
     have h0:=hcell 0 (by omega) 0 (by omega)
     have hspot:spot=none:=by simpa [Addr.add] using World.cell?_spot (h0.trans rfl)
     subst hspot
     refine .inr ⟨b,off,cap0,by rw [hll],⟨by rw [hll];omega,by rw [hll];omega⟩,block_lt_of_cell (h0.trans rfl),fun j u hj=>?_⟩
     have hjl:j < len0 * 2:=by rw [←hll,←entsC_len];exact (List.getElem?_eq_some_iff.1 hj).1
     have hc:=hcell (j / 2) (by omega) (j % 2) (Nat.mod_lt _ (by decide))
     have hti:((List.range len0).map f)[j / 2]? = some (f (j / 2)):=by
       rw [List.getElem?_map,List.getElem?_range (by omega)];rfl
     have h5:=entsC_at _ _ (j % 2) _ hti (Nat.mod_lt _ (by decide))
     rw [show j / 2 * 2 + j % 2=j by omega] at hc h5
     rw [←h5,hj] at hc
     rw [←hc]
     refine congrArg W.cell? ?_
     unfold Addr.add
     split
     · rename_i e;rw [e];rfl
     · rfl
end Go.Proofs.YtddbpnplbcjpgaaGreatDoor
namespace Go.Proofs.YtddbpnplbcjpgaaGreatDoor
open Go.RowKit
theorem eq_step {l m:List Ent} {k:Nat} (h:l.take k=m.take k) {t u:Ent} (hl:l[k]? = some t) (hm:m[k]? = some u) (e:t=u):l.take (k + 1)=m.take (k + 1):=by
 obtain ⟨h1,h2⟩:=List.getElem?_eq_some_iff.1 hl
 obtain ⟨h3,h4⟩:=List.getElem?_eq_some_iff.1 hm
 rw [List.take_succ_eq_append_getElem h1,List.take_succ_eq_append_getElem h3,h,h2,h4,e]
set_option maxRecDepth 100000 in
set_option maxHeartbeats 1000000 in
theorem equal_entsL (v1 v2:Value) (l m:List Ent) (w:World) (h1:IsEnts w v1 l) (h2:IsEnts w v2 m) (hl:l.length≤9223372036854775807) (hm:m.length≤9223372036854775807) :
   Calls Tryz.prog 15 #[v1,v2] w fun e w'=>e=.returned (.bool (decide (l=m)))∧∃ q,w'=w.drewN q:=by
 obtain ⟨a1,c1,rfl,f1⟩:=h1.form
 obtain ⟨a2,c2,rfl,f2⟩:=h2.form
 have F1:=Lib.hid f1
 have F2:=Lib.hid f2
 obtain ⟨n,hn⟩:∃ n,n=l.length:=⟨_,rfl⟩
 obtain ⟨n2,hn2⟩:∃ n,n=m.length:=⟨_,rfl⟩
 rw [←hn] at hl ⊢
 rw [←hn2] at hm ⊢
 have HN:=Lib.hid hn
 have HN2:=Lib.hid hn2
 clear h1 h2 f1 f2 hn hn2
 by_cases hne:n=n2
 · subst hne
   go_enter Tryz.func15,Tryz.ntmps15
   go_wp2
   go_loopw [13] (fun i wr=>∃ k q:Nat,k≤n∧i=.int .i64 k∧l.take k=m.take k∧wr=w.drewN q) (fun i _=>n - (intOf i).toNat)
   case atStart=>exact ⟨0,0,by omega,rfl,rfl,rfl⟩
   case round =>
     obtain ⟨k,q,hk,rfl,htk,rfl⟩:=hrel
     have HTK:=Lib.hid htk
     clear htk
     by_cases hlt:k < n
     · obtain ⟨t, ht⟩ : ∃ t, l[k]? = some t := ⟨l[k]'(by have := HN.out; omega), List.getElem?_eq_getElem _⟩
       obtain ⟨u, hu⟩ : ∃ u, m[k]? = some u := ⟨m[k]'(by have := HN2.out; omega), List.getElem?_eq_getElem _⟩
       obtain ⟨b1,o1,rfl,_,p0,p1⟩:=F1.out k t ht
       obtain ⟨b2,o2,rfl,_,q0,q1⟩:=F2.out k u hu
       have HTT:=Lib.hid ht
       have HUU:=Lib.hid hu
       clear ht hu
       obtain ⟨r1,t1⟩:=t
       obtain ⟨r2,t2⟩:=u
       simp only at p0 p1 q0 q1
       by_cases hr:r1=r2
       · by_cases ht:t1=t2
         · subst hr ht
           have HST:=Lib.hid (eq_step HTK.out HTT.out HUU.out rfl)
           go_wp2
           go_quiet (fail)
           go_wp2
           go_roundw
           case rel=>exact ⟨k + 1,_,by omega,by go_num,HST.out,rfl⟩
           case measure=>simp [intOf];omega
         · subst hr
           have HE:Hid (decide (l=m)=false):=Lib.hid (show decide (l=m)=false by
             rw [decide_eq_false_iff_not];rintro rfl
             have:=HTT.out.symm.trans HUU.out
             simp at this;exact ht this)
           have x1:(t1 == t2)=false:=by simpa using ht
           have x2:(t1 != t2)=true:=by simpa using ht
           go_wp2
           go_quiet (fail)
           go_wp2
           go_ret
           exact ⟨by rw [HE.out];rfl,by first | exact ⟨_,rfl⟩ | exact ⟨_,by rw [World.drewN_drewN]⟩⟩
       · have HE : Hid (decide (l = m) = false) := Lib.hid (show decide (l = m) = false by
           rw [decide_eq_false_iff_not];rintro rfl
           have:=HTT.out.symm.trans HUU.out
           simp at this;exact hr this.1)
         have x1:(r1 == r2)=false:=by simpa using hr
         have x2:(r1 != r2)=true:=by simpa using hr
         go_wp2
         go_quiet (fail)
         go_wp2
         go_ret
         exact ⟨by rw [HE.out];rfl,by first | exact ⟨_,rfl⟩ | exact ⟨_,by rw [World.drewN_drewN]⟩⟩
     · have HE : Hid (decide (l = m) = true) := Lib.hid (show decide (l = m) = true by
         rw [decide_eq_true_eq]
         have h:=HTK.out
         rw [List.take_of_length_le (by have:=HN.out;omega),List.take_of_length_le (by have:=HN2.out;omega)] at h
         exact h)
       go_wp2
       go_ret
       exact ⟨by rw [HE.out];rfl,by first | exact ⟨_,rfl⟩ | exact ⟨_,by rw [World.drewN_drewN]⟩⟩
 · have HE : Hid (decide (l = m) = false) := Lib.hid (show decide (l = m) = false by
     rw [decide_eq_false_iff_not];rintro rfl;exact hne (HN.out.trans HN2.out.symm))
   have x1:((n:Int) == (n2:Int))=false:=by simp;omega
   have x2:((n:Int) != (n2:Int))=true:=by simp;omega
   rw [HE.out]
   go_enter Tryz.func15,Tryz.ntmps15
   go_wp2
   go_ret
   exact ⟨rfl,0,rfl⟩
theorem equal_ents (v1 v2:Value) (l m:List Ent) (w:World) (h1:IsEnts w v1 l) (h2:IsEnts w v2 m) (hl:l.length≤1000000) (hm:m.length≤9223372036854775807) :
   Calls Tryz.prog 15 #[v1,v2] w fun e w'=>e=.returned (.bool (decide (l=m)))∧∃ q,w'=w.drewN q:=equal_entsL v1 v2 l m w h1 h2 (Nat.le_trans hl (by decide)) hm
theorem equal_same (v1 v2:Value) (l:List Ent) (w:World) (h1:IsEnts w v1 l) (h2:IsEnts w v2 l) (hl:l.length≤1000000) :
   Calls Tryz.prog 15 #[v1,v2] w fun e w'=>e=.returned (.bool true)∧∃ q,w'=w.drewN q :=
 (equal_ents v1 v2 l l w h1 h2 hl (by omega)).mono fun _ _ ⟨h1,h2⟩=>⟨by rw [h1];simp,h2⟩
end Go.Proofs.YtddbpnplbcjpgaaGreatDoor
namespace Go.Proofs.YtddbpnplbcjpgaaGreatDoor
open Go.RowKit
def lastB (T:List ByteArray) (s:ByteArray) (i:Nat):Int:=if idxB T s < i then (idxB T s:Int) else -1
theorem lastB_hit {T:List ByteArray} (hn:T.Nodup) {s:ByteArray} {i:Nat} (h:T[i]? = some s):lastB T s (i + 1)=i:=by
 unfold lastB;rw [idxB_at hn h,if_pos (by omega)]
theorem lastB_miss {T:List ByteArray} {s x:ByteArray} {i:Nat} (h:T[i]? = some x) (hx:x≠s):lastB T s (i + 1)=lastB T s i:=by
 unfold lastB
 by_cases hi:idxB T s < i
 · rw [if_pos hi,if_pos (by omega)]
 · rw [if_neg hi]
   by_cases hs:s∈T
   · have : idxB T s ≠ i := by
       intro e
       have:=idxB_get hs
       rw [e,h] at this
       exact hx (Option.some.inj this)
     rw [if_neg (by omega)]
   · have h1:=idxB_new hs
     have h2:=(List.getElem?_eq_some_iff.1 h).1
     rw [if_neg (by omega)]
theorem lastB_zero (T:List ByteArray) (s:ByteArray):lastB T s 0=-1:=by unfold lastB;rw [if_neg (by omega)]
theorem lastB_in {T:List ByteArray} {s:ByteArray} (h:s∈T):lastB T s T.length=idxB T s:=by unfold lastB;rw [if_pos (idxB_lt h)]
theorem lastB_new {T:List ByteArray} {s:ByteArray} (h:s ∉ T):lastB T s T.length=-1:=by unfold lastB;rw [idxB_new h,if_neg (by omega)]
set_option maxRecDepth 100000 in
set_option maxHeartbeats 4000000 in
theorem rtab_any (v:Value) (l:List ByteArray) (w:World) (hv:IsTexts w v l) (hl:l.length≤1000000) :
   Calls Tryz.prog 56 #[v] w (TabIs w l):=by
 obtain ⟨a1,c1,rfl,_,f1⟩:=hv
 have F1:=Lib.hid f1
 obtain ⟨n,hn⟩:∃ n,n=l.length:=⟨_,rfl⟩
 rw [←hn] at hl ⊢
 have HN:=Lib.hid hn
 clear f1 hn
 go_enter Tryz.func56,Tryz.ntmps56
 go_wp2
 go_loopw [4, 5, 12] (fun t a i wr => ∃ (k : Nat) (T : List ByteArray) (N : List Nat), k ≤ n ∧ i = .int .i64 k ∧ T.length ≤ k ∧ N.length = k ∧ T.Nodup ∧ tabK [] l = tabK T (l.drop k) ∧ atK [] l = N ++ atK T (l.drop k) ∧
     ownsS wr w.heap.size t T∧ownsN wr w.heap.size a N∧Below w.heap.size w wr) (fun _ _ i _=>n - (intOf i).toNat)
 case atStart=>exact ⟨0,[],[],Nat.zero_le _,rfl,Nat.le_refl _,rfl,List.nodup_nil,rfl,rfl,ownsS_nil _ _,ownsN_nil _ _,Below.refl _ _⟩
 case round =>
   obtain ⟨k,T,N,hk,rfl,hT,hN,hnd,ht,ha,hos,hon,hbel⟩:=hrel
   have HT:=Lib.hid ht
   have HA:=Lib.hid ha
   have HO:=Lib.hid hos
   have HQ:=Lib.hid hon
   have HB:=Lib.hid hbel
   have HNL:=Lib.hid hN
   have HTL:=Lib.hid hT
   have HND:=Lib.hid hnd
   obtain ⟨ad,cp,rfl,_,g1⟩:=hos.isTexts
   have G1:=Lib.hid g1
   clear ht ha hos hon hbel hN hT hnd g1
   by_cases hlt:k < n
   · obtain ⟨s, hs⟩ : ∃ s, l[k]? = some s := ⟨l[k]'(by have := HN.out; omega), List.getElem?_eq_getElem _⟩
     obtain ⟨b1,o1,rfl,hb1,p0⟩:=F1.out k s hs
     have q0:=(HB.out.cell (p:=⟨b1,o1 + k,none⟩) hb1).trans p0
     obtain ⟨m,hm⟩:∃ m,m=T.length:=⟨_,rfl⟩
     have HM:=Lib.hid hm
     have hml:m≤1000000:=by have:=HTL.out;omega
     rw [←hm]
     clear p0 hm
     go_wp2
     go_loop [8,18] (fun x i=>∃ q:Nat,q≤m∧i=.int .i64 q∧x=.int .i64 (lastB T s q)) (fun _ i=>m - (intOf i).toNat)
     case atStart=>exact ⟨0,Nat.zero_le _,rfl,by rw [lastB_zero]⟩
     case round =>
       obtain ⟨q,hq,rfl,rfl⟩:=hrel
       by_cases hlt2:q < m
       · obtain ⟨x, hx⟩ : ∃ x, T[q]? = some x := ⟨T[q]'(by have := HM.out; omega), List.getElem?_eq_getElem _⟩
         obtain ⟨b2,o2,rfl,hb2,p2⟩:=G1.out q x hx
         by_cases he:x=s
         · subst he
           have HH:=Lib.hid (lastB_hit HND.out hx)
           have hb:=beq_same x
           clear hx
           go_wp2
           go_round
           case rel=>exact ⟨q + 1,by omega,by go_num,by rw [HH.out]⟩
           case measure=>simp [intOf];omega
         · have HH:=Lib.hid (lastB_miss hx he)
           have hb:=beq_diff he
           clear hx
           go_wp2
           go_round
           case rel=>exact ⟨q + 1,by omega,by go_num,by rw [HH.out]⟩
           case measure=>simp [intOf];omega
       · obtain rfl:q=m:=by omega
         by_cases hin:s∈T
         · have HJ:=Lib.hid (show lastB T s q=idxB T s by rw [HM.out];exact lastB_in hin)
           have HT2:=Lib.hid (HT.out.trans (tabK_in hs hin))
           have HA2:=Lib.hid (HA.out.trans (congrArg (N ++ ·) (atK_in hs hin)))
           obtain ⟨j,hj⟩:∃ j,idxB T s=j:=⟨_,rfl⟩
           have hjm:j≤1000000:=by have:=idxB_lt hin;have:=HM.out;omega
           rw [hj] at HJ HA2
           rw [HJ.out]
           clear hs hj
           go_wp2_with (at_builtin;refine wpList_append_int rfl _ _ rfl w.heap.size _ N rfl (HQ.out.alloc _) ⟨wr.heap.size,0,none⟩ 1 rfl j ?c1 ?c2 ?c3 ?_)
           case c2=>have:=HNL.out;omega
           case c3=>have:=HB.out.size;simp;omega
           intro g cap w1 ho1 hg1
           have hbel1:Below w.heap.size w w1:=(HB.out.alloc HB.out.size _).grown hg1 (by have:=HB.out.size;simp;omega) (fun g hg=>(HQ.out.lt g hg).1)
           have hs1:ownsS w1 w.heap.size _ T:=World.ownsRow.kept (HO.out.alloc _) hg1 (rows_apart HO.out HQ.out (show 9≠3 by decide))
           have ha1:atK [] l=(N ++ [j]) ++ atK T (l.drop (k + 1)):=by rw [HA2.out];simp
           have hn1:(N ++ [j]).length=k + 1:=by have:=HNL.out;simp;omega
           have hTn:T.length=q:=HM.out.symm
           rw [←hTn]
           have HX:=Lib.hid (And.intro hbel1 (And.intro hs1 (And.intro ha1 (And.intro hn1 ho1))))
           clear hbel1 hs1 ha1 hn1 ho1 hg1
           go_wp2
           go_roundw
           case rel=>exact ⟨k + 1,T,N ++ [j],by omega,by go_num,by have:=HTL.out;omega,HX.out.2.2.2.1,HND.out,HT2.out,HX.out.2.2.1,HX.out.2.1,by simpa using HX.out.2.2.2.2,HX.out.1⟩
           case measure=>simp [intOf];omega
         · have HJ:=Lib.hid (show lastB T s q=-1 by rw [HM.out];exact lastB_new hin)
           have HT2:=Lib.hid (HT.out.trans (tabK_new hs hin))
           have HA2:=Lib.hid (HA.out.trans (congrArg (N ++ ·) (atK_new hs hin)))
           rw [HJ.out]
           clear hs
           have hTn:T.length=q:=HM.out.symm
           rw [←hTn]
           have hTm:T.length≤1000000:=by omega
           have HTE:=Lib.hid hTn
           clear hTn
           go_wp2_with (at_builtin;refine wpList_append_str rfl _ _ rfl w.heap.size _ T rfl (HO.out.alloc _) ⟨wr.heap.size,0,none⟩ 1 rfl s (by simp [Addr.add]) (by have:=HTL.out;omega) (by have:=HB.out.size;simp;omega) ?_)
           intro g cap w3 ho3 hg3
           have HB3:Hid (Below w.heap.size w w3):=(HB.out.alloc HB.out.size _).grown hg3 (by have:=HB.out.size;simp;omega) (fun g hg=>(HO.out.lt g hg).1)
           have HN3:=Lib.hid (show ownsN w3 w.heap.size _ N from World.ownsRow.kept (HQ.out.alloc _) hg3 (rows_apart HQ.out HO.out (show 3≠9 by decide)))
           have HS3:=Lib.hid ho3
           clear ho3 hg3 HB HO HQ
           go_wp2_with (at_builtin;refine wpList_append_int rfl _ _ rfl w.heap.size _ N rfl (HN3.out.alloc _) ⟨w3.heap.size,0,none⟩ 1 rfl T.length (by simp [Addr.add]) (by have:=HNL.out;omega) (by have:=HB3.out.size;simp;omega) ?_)
           intro g' cap' w4 ho4 hg4
           have HB4:Hid (Below w.heap.size w w4):=(HB3.out.alloc HB3.out.size _).grown hg4 (by have:=HB3.out.size;simp;omega) (fun g hg=>(HN3.out.lt g hg).1)
           have HS4:=Lib.hid (show ownsS w4 w.heap.size _ (T ++ [s]) from World.ownsRow.kept (HS3.out.alloc _) hg4 (rows_apart HS3.out HN3.out (show 9≠3 by decide)))
           have HN4:=Lib.hid ho4
           have HA4:Hid (atK [] l=(N ++ [T.length]) ++ atK (T ++ [s]) (l.drop (k + 1))):=Lib.hid (show _=_ by rw [HA2.out];simp)
           have HL4:Hid ((N ++ [T.length]).length=k + 1∧(T ++ [s]).length≤k + 1):=Lib.hid (show _∧_ by have:=HNL.out;have:=HTL.out;simp;omega)
           have HD4:Hid ((T ++ [s]).Nodup):=Lib.hid (show _ by have:=addK_nodup (s:=s) HND.out;rwa [addK_new hin] at this)
           clear ho4 hg4 HB3 HS3 HN3 HA2
           go_wp2
           go_roundw
           case rel=>exact ⟨k + 1,T ++ [s],N ++ [T.length],by omega,by go_num,HL4.out.2,HL4.out.1,HD4.out,HT2.out,HA4.out,HS4.out,HN4.out,HB4.out⟩
           case measure=>simp [intOf];omega
   · have HT2:Hid (tabK [] l=T):=Lib.hid (show _=_ by rw [HT.out,List.drop_eq_nil_of_le (by have:=HN.out;omega)];rfl)
     have HA2:Hid (atK [] l=N):=Lib.hid (show _=_ by rw [HA.out,List.drop_eq_nil_of_le (by have:=HN.out;omega)];simp [atK])
     go_wp2
     go_ret2
     refine ⟨_,_,rfl,?_,?_,HB.out⟩
     · rw [HT2.out];exact HO.out
     · rw [HA2.out];exact HQ.out
end Go.Proofs.YtddbpnplbcjpgaaGreatDoor
namespace Go.Proofs.YtddbpnplbcjpgaaGreatDoor
open Go.RowKit
def cmpF (x y:Int):Int:=if x < y then -1 else if y < x then 1 else 0
def orF (p q:Int):Int:=if p=0 then q else p
def cI (a b:Int×Int):Int:=orF (cmpF a.1 b.1) (cmpF a.2 b.2)
def wiF (x:Int×Int) (from_ have_:List Ent):Bool:=decide (ofF from_ x.2 < x.1) && decide (x.1≤ofF have_ x.2)
set_option maxRecDepth 100000 in
theorem cmp_any (x y:Int) (w:World):Calls Tryz.prog 119 #[.int .i64 x,.int .i64 y] w fun e w'=>e=.returned (.int .i64 (cmpF x y))∧w=w':=by
 have hn:∀ (z:Int) (w:World),Calls Tryz.prog 148 #[.int .i64 z] w fun e w'=>e=.returned (.bool false)∧w=w':=fun z w=>by
   go_enter Tryz.func148,Tryz.ntmps148
   go_wp2
   go_ret
   exact ⟨by first | rfl | simp,rfl⟩
 by_cases h1:x < y
 · have HW:Hid (cmpF x y=-1):=Lib.hid (by unfold cmpF;rw [if_pos h1])
   rw [HW.out]
   go_enter Tryz.func119,Tryz.ntmps119
   go_wp2_with (first | (go_at_call 148;refine (hn _ _).mono ?_;rintro e w' ⟨rfl,rfl⟩))
   go_ret
   exact ⟨rfl,rfl⟩
 · by_cases h2:y < x
   · have HW:Hid (cmpF x y=1):=Lib.hid (by unfold cmpF;rw [if_neg h1,if_pos h2])
     rw [HW.out]
     go_enter Tryz.func119,Tryz.ntmps119
     go_wp2_with (first | (go_at_call 148;refine (hn _ _).mono ?_;rintro e w' ⟨rfl,rfl⟩))
     go_ret
     exact ⟨rfl,rfl⟩
   · obtain rfl:x=y:=by omega
     have HW:Hid (cmpF x x=0):=Lib.hid (by unfold cmpF;rw [if_neg h1,if_neg h1])
     rw [HW.out]
     clear h1 h2
     go_enter Tryz.func119,Tryz.ntmps119
     go_wp2_with (first | (go_at_call 148;refine (hn _ _).mono ?_;rintro e w' ⟨rfl,rfl⟩))
     go_ret
     exact ⟨rfl,rfl⟩
theorem cmp_as (x y c:Int) (w:World) (h:cmpF x y=c):Calls Tryz.prog 119 #[.int .i64 x,.int .i64 y] w fun e w'=>e=.returned (.int .i64 c)∧w=w':=by
 subst h;exact cmp_any x y w
set_option maxRecDepth 100000 in
theorem or_any (p q c:Int) (B:Nat) (w:World) (h0:w.cell? ⟨B,0,none⟩=some (.int .i64 p)) (h1:w.cell? ⟨B,1,none⟩=some (.int .i64 q)) (h:orF p q=c) :
   Calls Tryz.prog 118 #[.slice (some ⟨B,0,none⟩) 2 2] w fun e w'=>e=.returned (.int .i64 c)∧w=w':=by
 subst h
 by_cases hp:p=0
 · have HW:Hid (orF p q=q):=Lib.hid (by unfold orF;rw [if_pos hp])
   rw [HW.out]
   subst hp
   by_cases hq:q=0
   · subst hq
     go_enter Tryz.func118,Tryz.ntmps118
     go_wp2
     refine wp_loop_rounds 3 ?_
     rw [rounds_succ]
     go_wp2
     rw [rounds_succ]
     go_wp2
     rw [rounds_succ]
     go_wp2
     go_ret
     exact ⟨rfl,rfl⟩
   · have bq:(q == 0)=false:=by simpa using hq
     have bq2:(q != 0)=true:=by simpa using hq
     go_enter Tryz.func118,Tryz.ntmps118
     go_wp2
     refine wp_loop_rounds 2 ?_
     rw [rounds_succ]
     go_wp2
     rw [rounds_succ]
     go_wp2
     go_ret
     exact ⟨rfl,rfl⟩
 · have HW:Hid (orF p q=p):=Lib.hid (by unfold orF;rw [if_neg hp])
   rw [HW.out]
   have bq:(p == 0)=false:=by simpa using hp
   have bq2:(p != 0)=true:=by simpa using hp
   go_enter Tryz.func118,Tryz.ntmps118
   go_wp2
   refine wp_loop_rounds 1 ?_
   rw [rounds_succ]
   go_wp2
   go_ret
   exact ⟨rfl,rfl⟩
theorem three_new (w:World) (o1 o2:Obj) (a b:Value) (t:TypeId):(((w.alloc o1).alloc o2).alloc (.cells #[a,b] t)).cell? ⟨w.heap.size + 1 + 1,0,none⟩=some a∧(((w.alloc o1).alloc o2).alloc (.cells #[a,b] t)).cell? ⟨w.heap.size + 1 + 1,1,none⟩=some b:=by
 have h:=heap_alloc_new ((w.alloc o1).alloc o2) (.cells #[a,b] t)
 rw [World.size_alloc,World.size_alloc] at h
 exact ⟨cell_of_row _ _ 0 _ _ (0,0) h,cell_of_row _ _ 1 _ _ (0,0) h⟩
set_option maxRecDepth 100000 in
set_option maxHeartbeats 2000000 in
theorem idcmp_any (a b:Int×Int) (w:World):Calls Tryz.prog 88 #[.agg #[.int .i64 a.1,.int .i64 a.2],.agg #[.int .i64 b.1,.int .i64 b.2]] w fun e w'=>e=.returned (.int .i64 (cI a b))∧Below w.heap.size w w':=by
 obtain ⟨x1,x2⟩:=a
 obtain ⟨y1,y2⟩:=b
 simp only
 obtain ⟨c1,hc1⟩:∃ c,cmpF x1 y1=c:=⟨_,rfl⟩
 obtain ⟨c2,hc2⟩:∃ c,cmpF x2 y2=c:=⟨_,rfl⟩
 obtain ⟨c,hc⟩:∃ c,orF c1 c2=c:=⟨_,rfl⟩
 have HW:Hid (cI (x1,x2) (y1,y2)=c):=Lib.hid (show cI (x1,x2) (y1,y2)=c by unfold cI;simp only;rw [hc1,hc2,hc])
 have H1:=Lib.hid hc1
 have H2:=Lib.hid hc2
 have H3:=Lib.hid hc
 clear hc1 hc2 hc
 rw [HW.out]
 go_enter Tryz.func88,Tryz.ntmps88
 go_wp2
 have k0:((w.alloc (.cells #[.int .i64 x1,.int .i64 x2] 24)).alloc (.cells #[.int .i64 y1,.int .i64 y2] 24)).cell? ⟨w.heap.size,0,none⟩=some (.int .i64 x1)∧((w.alloc (.cells #[.int .i64 x1,.int .i64 x2] 24)).alloc (.cells #[.int .i64 y1,.int .i64 y2] 24)).cell? ⟨w.heap.size,1,none⟩=some (.int .i64 x2)∧((w.alloc (.cells #[.int .i64 x1,.int .i64 x2] 24)).alloc (.cells #[.int .i64 y1,.int .i64 y2] 24)).cell? ⟨w.heap.size + 1,0,none⟩=some (.int .i64 y1)∧((w.alloc (.cells #[.int .i64 x1,.int .i64 x2] 24)).alloc (.cells #[.int .i64 y1,.int .i64 y2] 24)).cell? ⟨w.heap.size + 1,1,none⟩=some (.int .i64 y2):=by simp
 go_region_held3 (fun w'=>w'.cell? ⟨w.heap.size,0,none⟩=some (.int .i64 x1)∧w'.cell? ⟨w.heap.size,1,none⟩=some (.int .i64 x2)∧w'.cell? ⟨w.heap.size + 1,0,none⟩=some (.int .i64 y1)∧w'.cell? ⟨w.heap.size + 1,1,none⟩=some (.int .i64 y2)) (first | exact k0 | go_keep) (first | (go_at_call 119;((with_reducible refine (cmp_as x1 y1 c1 _ H1.out).mono ?_);rintro r w' ⟨rfl,rfl⟩)) | (go_at_call 119;((with_reducible refine (cmp_as x2 y2 c2 _ H2.out).mono ?_);rintro r w' ⟨rfl,rfl⟩)) | (go_at_call 118;((refine (or_any c1 c2 c _ _ (by simp;exact (three_new _ _ _ _ _ _).1) (by simp;exact (three_new _ _ _ _ _ _).2) H3.out).mono ?_);rintro r w' ⟨rfl,rfl⟩)))
 go_wp2
 go_ret
 refine ⟨rfl,?_⟩
 first
   | exact (((Below.refl _ _).alloc (Nat.le_refl _) _).alloc (by simp) _).drew.alloc (by simp;omega) _
   | exact ((((Below.refl _ _).alloc (Nat.le_refl _) _).alloc (by simp) _).alloc (by simp;omega) _).drew
theorem idcmp_as (x1 x2 y1 y2 c:Int) (w:World) (h:cI (x1,x2) (y1,y2)=c):Calls Tryz.prog 88 #[.agg #[.int .i64 x1,.int .i64 x2],.agg #[.int .i64 y1,.int .i64 y2]] w fun e w'=>e=.returned (.int .i64 c)∧Below w.heap.size w w':=by
 subst h;exact idcmp_any (x1,x2) (y1,y2) w
end Go.Proofs.YtddbpnplbcjpgaaGreatDoor
namespace Go.Proofs.YtddbpnplbcjpgaaGreatDoor
open Go.RowKit
theorem info_wr:(Tryz.prog.info? 26).map (fun i=>(i.zero,i.size,i.bytes))=some (some (.agg #[.int .i64 0,.int .i64 0,.int .i64 0,.string ⟨#[]⟩,.string ⟨#[]⟩,.int .i64 0]),6,64):=by kernel_rfl
instance : Inhabited Wr := ⟨⟨0, 0, 0, ⟨#[]⟩, ⟨#[]⟩, 0⟩⟩
def wrsC (l:List Wr):List Value:=l.flatMap wrC
theorem wrsC_len (l:List Wr):(wrsC l).length=l.length * 6:=by
 induction l with
 | nil=>rfl
 | cons t r ih=>simp only [wrsC,List.flatMap_cons,List.length_append,List.length_cons] at ih ⊢;rw [ih];simp [wrC];omega
theorem wrsC_app (a b:List Wr):wrsC (a ++ b)=wrsC a ++ wrsC b:=by simp [wrsC]
theorem wrsC_one (a:Wr):wrsC [a]=wrC a:=by simp [wrsC]
theorem wrsC_at (l:List Wr) (i j:Nat) (t:Wr) (h:l[i]? = some t) (hj:j < 6):(wrsC l)[i * 6 + j]? = (wrC t)[j]? := by
 induction l generalizing i with
 | nil=>simp at h
 | cons u r ih =>
   have hc:wrsC (u :: r)=wrC u ++ wrsC r:=by simp [wrsC]
   have h3:(wrC u).length=6:=rfl
   rw [hc]
   cases i with
   | zero =>
     obtain rfl:u=t:=by simpa using h
     rw [List.getElem?_append_left (by omega)]
     congr 1;omega
   | succ i =>
     rw [List.getElem?_append_right (by omega),h3,show (i + 1) * 6 + j - 6=i * 6 + j by omega]
     exact ih i (by simpa using h)
theorem wrC_cell (t:Wr):∀ u∈wrC t,u.oneCell'=true:=by
 intro u hu
 simp [wrC] at hu
 rcases hu with rfl | rfl | rfl | rfl | rfl | rfl <;> rfl
theorem wrsC_cell (l:List Wr):∀ u∈wrsC l,u.oneCell'=true:=by
 intro u hu
 obtain ⟨t,_,ht⟩:=List.mem_flatMap.1 hu
 exact wrC_cell t u ht
theorem wrsC_take (l:List Wr) (i:Nat):wrsC (l.take i)=(wrsC l).take (i * 6):=by
 induction l generalizing i with
 | nil=>simp [wrsC]
 | cons u r ih =>
   cases i with
   | zero=>simp [wrsC]
   | succ i =>
     have hc:wrsC (u :: r)=wrC u ++ wrsC r:=by simp [wrsC]
     have h3:(wrC u).length=6:=rfl
     rw [List.take_succ_cons,hc,show wrsC (u :: r.take i)=wrC u ++ wrsC (r.take i) by simp [wrsC],ih,List.take_append,h3,List.take_of_length_le (l:=wrC u) (by rw [h3];omega),show (i + 1) * 6 - 6=i * 6 by omega]
theorem wrsC_drop (l:List Wr) (i:Nat):wrsC (l.drop i)=(wrsC l).drop (i * 6):=by
 induction l generalizing i with
 | nil=>simp [wrsC]
 | cons u r ih =>
   cases i with
   | zero=>simp [wrsC]
   | succ i =>
     have hc:wrsC (u :: r)=wrC u ++ wrsC r:=by simp [wrsC]
     have h3:(wrC u).length=6:=rfl
     rw [List.drop_succ_cons,hc,ih,List.drop_append,h3,show (wrC u).drop ((i + 1) * 6)=[] from List.drop_of_length_le (by rw [h3];omega),show (i + 1) * 6 - 6=i * 6 by omega,List.nil_append]
def ownsW (w:World) (base:Nat) (v:Value) (l:List Wr):Prop:=w.ownsRow base 26 6 v l.length (wrsC l)
theorem ownsW_nil (w:World) (base:Nat):ownsW w base (.slice none 0 0) []:=World.ownsRow_nil _ _ _ _
theorem ownsW.alloc {w:World} {base:Nat} {v:Value} {l:List Wr} (h:ownsW w base v l) (o:Obj):ownsW (w.alloc o) base v l:=World.ownsRow.alloc h o
theorem ownsW.drew {w:World} {base:Nat} {v:Value} {l:List Wr} (h:ownsW w base v l):ownsW w.drew base v l:=World.ownsRow.drew h
theorem ownsW.drewN {w:World} {base:Nat} {v:Value} {l:List Wr} (h:ownsW w base v l) (n:Nat):ownsW (w.drewN n) base v l:=h
theorem ownsW.lt {w:World} {base:Nat} {v:Value} {l:List Wr} (h:ownsW w base v l):∀ k,v.ownBlock=some k→base≤k∧k < w.heap.size:=World.ownsRow.lt h
theorem ownsW.mono {w:World} {base base':Nat} {v:Value} {l:List Wr} (h:ownsW w base v l) (hb:base'≤base):ownsW w base' v l:=by
 obtain ⟨h0,h1⟩:=h
 refine ⟨h0,?_⟩
 rcases h1 with h1 | ⟨g,cap,cur,hv,hg,r⟩
 · exact .inl h1
 · exact .inr ⟨g,cap,cur,hv,Nat.le_trans hb hg,r⟩
theorem ownsW.below {w w':World} {base:Nat} {v:Value} {l:List Wr} (h:ownsW w base v l) (hb:Below w.heap.size w w'):ownsW w' base v l:=by
 refine World.ownsRow.kept h (row:=none) ⟨hb.os,hb.tape,hb.output,hb.size,fun k hk _=>hb.block k hk⟩ ?_
 cases hv:v.ownBlock with
 | none=>exact .inl rfl
 | some g=>exact .inr (by simp)
def IsWrs (w:World) (v:Value) (l:List Wr):Prop :=
 (∃ a c,v=.slice a 0 c∧l=[])∨∃ b off c,v=.slice (some ⟨b,off,none⟩) l.length c∧(0 < l.length∧l.length≤c)∧b < w.heap.size∧∀ j u,(wrsC l)[j]? = some u→w.cell? ⟨b,off + j,none⟩=some u
theorem ownsW.is {w:World} {base:Nat} {v:Value} {l:List Wr} (h:ownsW w base v l):IsWrs w v l:=by
 have hall:=h
 have hlt:=h.lt
 obtain ⟨h0,h1⟩:=h
 rcases h1 with ⟨rfl,hn⟩ | ⟨g,cap,cur,rfl,hb,hh,hc,hm,hs,ht⟩
 · exact .inl ⟨_,_,rfl,List.length_eq_zero_iff.1 hn⟩
 · by_cases hz:l.length=0
   · exact .inl ⟨_,_,by rw [hz],List.length_eq_zero_iff.1 hz⟩
   · refine .inr ⟨g,0,cap,rfl,⟨by omega,hc⟩,(hlt g rfl).2,fun j u hj=>?_⟩
     have hjl:j < l.length * 6:=by rw [←wrsC_len];exact (List.getElem?_eq_some_iff.1 hj).1
     rw [Nat.zero_add,World.ownsRow.cellAt hall j hjl]
     exact hj
theorem IsWrs.nil (w:World):IsWrs w (.slice none 0 0) []:=.inl ⟨_,_,rfl,rfl⟩
theorem IsWrs.below {w w':World} {v:Value} {l:List Wr} (h:IsWrs w v l) (hb:Below w.heap.size w w'):IsWrs w' v l:=by
 rcases h with ⟨a,c,h1,h2⟩ | ⟨b,off,c,h1,h0,h2,h3⟩
 · exact .inl ⟨a,c,h1,h2⟩
 · exact .inr ⟨b,off,c,h1,h0,Nat.lt_of_lt_of_le h2 hb.size,fun j u hj=>(hb.cell (p:=⟨b,off + j,none⟩) h2).trans (h3 j u hj)⟩
theorem IsWrs.alloc {w:World} {v:Value} {l:List Wr} (h:IsWrs w v l) (o:Obj):IsWrs (w.alloc o) v l:=h.below ((Below.refl _ _).alloc (Nat.le_refl _) o)
theorem IsWrs.drewN {w:World} {v:Value} {l:List Wr} (h:IsWrs w v l) (n:Nat):IsWrs (w.drewN n) v l:=h
theorem IsWrs.form {w:World} {v:Value} {l:List Wr} (h:IsWrs w v l):∃ a c,v=.slice a l.length c∧∀ i t,l[i]? = some t→∃ b off,a=some ⟨b,off,none⟩∧b < w.heap.size ∧
   w.cell? ⟨b,off + i * 6,none⟩=some (.int .i64 t.time)∧w.cell? ⟨b,off + i * 6 + 1,none⟩=some (.int .i64 t.rep)∧w.cell? ⟨b,off + i * 6 + 2,none⟩=some (.int .i64 t.kind) ∧
   w.cell? ⟨b,off + i * 6 + 3,none⟩=some (.string t.key)∧w.cell? ⟨b,off + i * 6 + 4,none⟩=some (.string t.value)∧w.cell? ⟨b,off + i * 6 + 5,none⟩=some (.int .i64 t.n):=by
 rcases h with ⟨a,c,rfl,rfl⟩ | ⟨b,off,c,rfl,h0,h2,h3⟩
 · exact ⟨a,c,rfl,fun i t h=>by simp at h⟩
 · refine ⟨_,_,rfl,fun i t h=>⟨b,off,rfl,h2,?_,?_,?_,?_,?_,?_⟩⟩
   · exact h3 _ _ ((wrsC_at l i 0 t h (by omega)).trans rfl)
   · exact h3 _ _ ((wrsC_at l i 1 t h (by omega)).trans rfl)
   · exact h3 _ _ ((wrsC_at l i 2 t h (by omega)).trans rfl)
   · exact h3 _ _ ((wrsC_at l i 3 t h (by omega)).trans rfl)
   · exact h3 _ _ ((wrsC_at l i 4 t h (by omega)).trans rfl)
   · exact h3 _ _ ((wrsC_at l i 5 t h (by omega)).trans rfl)
def wrBlk (w:World) (B:Nat) (t:Wr):Prop:=w.heap[B]? = some (.cells (wrC t).toArray 26 (0,0))
theorem wpList_append_wr {w:World} {ops:Array Oper} {rest:List Oper} {o:Oper} {a:Act} {Q:Exit→Act→World→Prop} (hgd:o.guard=none) (s x:Operand)
   (ho:o.op=.call { callee:=.builtin .append,args:=#[s,x],argTypes:=#[28,28] })
   (base:Nat) (v:Value) (l:List Wr) (hs:a.eval s=v) (hown:ownsW w base v l)
   (B c:Nat) (hx:a.eval x=.slice (some ⟨B,0,none⟩) 1 c) (t:Wr) (hcell:wrBlk w B t)
   (hlen:l.length + 1≤1000000) (hbase:base≤w.heap.size)
   (h:∀ g cap w',ownsW w' base (.slice (some ⟨g,0,none⟩) (l.length + 1) cap) (l ++ [t])→w.grownBy w' v.ownBlock→wpList Tryz.prog ops Q rest (a.put o.dst (.slice (some ⟨g,0,none⟩) (l.length + 1) cap)) w'):wpList Tryz.prog ops Q (o :: rest) a w:=by
 obtain ⟨i0,hi,hz0,hz1,hz2⟩:=info_parts info_wr
 refine wpList_append_lies w hgd s x 28 ho base 26 i0 (.agg #[.int .i64 0,.int .i64 0,.int .i64 0,.string ⟨#[]⟩,.string ⟨#[]⟩,.int .i64 0]) 6 64 Tryz.underlying28 hi hz0 hz1 hz2 rfl (by decide) v l.length (wrsC l) hs hown ⟨B,0,none⟩ 1 c (wrC t) hx rfl ?_ (wrC_cell t) (by decide) (by unfold maxLen;omega) (by omega) hbase _ rfl ?_
 · intro j u hj
   have hadd:(⟨B,0,none⟩:Addr).add j=⟨B,j,none⟩:=by unfold Addr.add;split <;> simp_all
   rw [hadd,cell_of_row _ _ _ _ _ _ hcell,←hj]
   simp
 · intro g cap w' h1 h2 _ _
   refine h g cap w' ?_ h2
   unfold ownsW
   rw [List.length_append,wrsC_app,wrsC_one]
   exact h1
end Go.Proofs.YtddbpnplbcjpgaaGreatDoor
