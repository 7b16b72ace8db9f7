import Derived.Test.YtjkbmfpomgcblaaGreatDoorKr10
import Derived.Test.YtjkbmfpomgcblaaGreatDoorKr12
import Derived.Test.YtjkbmfpomgcblaaGreatDoorKr05
namespace Go.Proofs.YtjkbmfpomgcblaaGreatDoor
open Go.RowKit
theorem listF_dup {T:List ByteArray} {l:List Int} (h:(dupR T).1≠0):listF T l=([],dupR T):=by
 unfold dupR at h ⊢
 unfold listF
 split at h
 · rename_i i hi;rw [hi]
 · simp at h
theorem listF_ord {T:List ByteArray} {l:List Int} (h:(dupR T).1=0) (ho:(ordG T.length 0 l 0).1≠0):listF T l=([],ordG T.length 0 l 0):=by
 unfold dupR at h
 unfold listF
 split at h
 · simp at h
 · rename_i hi;rw [hi];simp only [if_neg ho]
theorem listF_good {T:List ByteArray} {l:List Int} (h:(dupR T).1=0) (ho:(ordG T.length 0 l 0).1=0):listF T l=(outG T l,0,-1):=by
 unfold dupR at h
 unfold listF
 split at h
 · simp at h
 · rename_i hi;rw [hi];simp only [if_pos ho]
theorem ordG_in (K:Nat) (l:List Int):∀ told i,(ordG K told l i).1=0→∀ n∈l,0≤n∧n < (K:Int):=by
 induction l with
 | nil=>intro told i _ n hn;cases hn
 | cons z r ih =>
   intro told i h n hn
   unfold ordG at h
   split at h
   · simp at h
   · rename_i h1
     split at h
     · simp at h
     · rcases List.mem_cons.1 hn with rfl | hn
       · omega
       · exact ih _ _ h n hn
theorem outG_snoc {T:List ByteArray} {l:List Int} {k j:Nat} {s:ByteArray} (h:l[k]? = some (j:Int)) (hs:T[j]? = some s):outG T (l.take (k + 1))=outG T (l.take k) ++ [s]:=by
 obtain ⟨hk,e⟩:=List.getElem?_eq_some_iff.1 h
 rw [←List.take_append_getElem hk,e]
 unfold outG
 rw [List.map_append]
 simp [hs]
def ListIs (w:World) (r:List ByteArray×Nat×Int) (e:Ending) (w':World):Prop :=
 ∃ v err,e=.returned (.tuple #[v,err])∧ownsS w' w.heap.size v r.1∧anyErr w' err r.2∧Below w.heap.size w w'
set_option maxRecDepth 100000 in
set_option maxHeartbeats 4000000 in
theorem klist_any (v u:Value) (T:List ByteArray) (l:List Int) (w:World) (hv:IsTexts w v T) (hu:IsNums w u l) (hT:T.length≤1000000) (hl:l.length≤1000000) (hs:∀ s∈T,s.size≤140737488351232) :
   Calls Tryz.prog 162 #[v,u] w (ListIs w (listF T l)):=by
 have HV:=Lib.hid hv
 have HU:=Lib.hid hu
 have HS:=Lib.hid hs
 have HTL:=Lib.hid hT
 have HLL:=Lib.hid hl
 obtain ⟨a1,c1,rfl,_,f1⟩:=hv
 obtain ⟨a2,c2,rfl,_,f2⟩:=hu
 have F1:=Lib.hid f1
 have F2:=Lib.hid f2
 obtain ⟨m,hm⟩:∃ m,m=T.length:=⟨_,rfl⟩
 obtain ⟨n,hn⟩:∃ n,n=l.length:=⟨_,rfl⟩
 rw [←hm] at hT HV ⊢
 rw [←hn] at hl HU ⊢
 have HM:=Lib.hid hm
 have HN:=Lib.hid hn
 clear f1 f2 hm hn hs hT hl
 go_enter Tryz.func162,Tryz.ntmps162
 go_wp2_with fail
 refine (ktwice_any _ T w HV.out HTL.out HS.out).mono ?_
 rintro r w1 ⟨err,rfl,he,hb1⟩
 by_cases h0:(dupR T).1=0
 · obtain rfl:=anyErr.nil (.inl he) h0
   have HU1:=Lib.hid (HU.out.below hb1)
   have HB1:=Lib.hid hb1
   have H0:=Lib.hid h0
   clear he hb1 h0
   go_wp2_with fail
   refine (korder_any _ l m w1 HU1.out HLL.out (by rw [HM.out];exact HTL.out)).mono ?_
   rintro r w2 ⟨err,rfl,he,hb2⟩
   have HB2:=Lib.hid (HB1.out.trans (hb2.mono HB1.out.size))
   by_cases h1:(ordG m 0 l 0).1=0
   · obtain rfl:=he.nil h1
     have HR:Hid (listF T l=(outG T l,0,-1)):=Lib.hid (listF_good H0.out (by rw [←HM.out];exact h1))
     have HI:=Lib.hid (ordG_in m l 0 0 h1)
     have hm':m≤1000000:=by rw [HM.out];exact HTL.out
     have hn':n≤1000000:=by rw [HN.out];exact HLL.out
     clear he hb2 h1 HB1 HU1
     go_wp2
     go_loopw [8,28] (fun x i wr=>∃ k:Nat,k≤m∧i=.int .i64 k∧ownsS wr w.heap.size x (T.take k)∧Below w.heap.size w wr) (fun _ i _=>m - (intOf i).toNat)
     case atStart=>exact ⟨0,Nat.zero_le _,rfl,ownsS_nil _ _,HB2.out⟩
     case round =>
       obtain ⟨k,hk,rfl,hos,hbel⟩:=hrel
       have HO:=Lib.hid hos
       have HB:=Lib.hid hbel
       obtain ⟨ad,cp,rfl,hcp,g1⟩:=hos.isTexts
       have hkl:(T.take k).length=k:=by rw [List.length_take];have:=HM.out;omega
       have HKL:=Lib.hid hkl
       rw [hkl] at HO hcp
       rw [hkl]
       clear hos hbel hkl
       by_cases hlt:k < m
       · obtain ⟨s, hs⟩ : ∃ s, T[k]? = some s := ⟨T[k]'(by have := HM.out; omega), List.getElem?_eq_getElem _⟩
         obtain ⟨b1,o1,rfl,hb1,p0⟩:=F1.out k s hs
         have q0:=(HB.out.cell (p:=⟨b1,o1 + k,none⟩) hb1).trans p0
         have HSZ:Hid (s.size≤140737488351232):=Lib.hid (HS.out s (List.mem_of_getElem? hs))
         have HTK:Hid (T.take k ++ [s]=T.take (k + 1)):=Lib.hid (show _=_ by obtain ⟨hk2,e⟩:=List.getElem?_eq_some_iff.1 hs;rw [←e,List.take_append_getElem hk2])
         clear p0 hs g1
         go_wp2_with fail
         refine (kclone_any s _ (by have:=HSZ.out;omega)).mono ?_
         rintro r w3 ⟨rfl,hb3⟩
         have HB3:=Lib.hid (HB.out.trans (hb3.mono HB.out.size))
         have HO3:=Lib.hid (HO.out.below hb3)
         clear hb3 HB HO
         go_wp2_with (at_builtin;refine wpList_append_str rfl _ _ rfl w.heap.size _ (T.take k) rfl (HO3.out.alloc _) ⟨w3.heap.size,0,none⟩ 1 rfl s (by simp [Addr.add]) (by have:=HKL.out;omega) (by have:=HB3.out.size;simp;omega) ?_)
         intro g cap w4 ho4 hg4
         have HB4:Hid (Below w.heap.size w w4):=(HB3.out.alloc HB3.out.size _).grown hg4 (by have:=HB3.out.size;simp;omega) (fun g hg=>(HO3.out.lt g hg).1)
         rw [HTK.out] at ho4
         have HO4:=Lib.hid ho4
         clear ho4 hg4
         go_wp2
         go_roundw
         case rel=>exact ⟨k + 1,by omega,by go_num,HO4.out,HB4.out⟩
         case measure=>simp [intOf];omega
       · obtain rfl:k=m:=by omega
         have hTk:T.take k=T:=List.take_of_length_le (by rw [HM.out];exact Nat.le_refl _)
         rw [hTk] at HO g1
         obtain ⟨wp,hwp⟩:∃ wp,wp=wr:=⟨_,rfl⟩
         rw [←hwp] at HO HB g1 ⊢
         have G1:=Lib.hid g1
         clear g1 hTk hwp
         go_wp2
         go_loopw [9,40] (fun y i wo=>∃ q:Nat,q≤n∧i=.int .i64 q∧ownsS wo wp.heap.size y (outG T (l.take q))∧Below wp.heap.size wp wo) (fun _ i _=>n - (intOf i).toNat)
         case atStart=>exact ⟨0,Nat.zero_le _,rfl,ownsS_nil _ _,Below.refl _ _⟩
         case round =>
           obtain ⟨q,hq,rfl,hos,hbel⟩:=hrel
           have HO2:=Lib.hid hos
           have HBO:=Lib.hid hbel
           clear hos hbel
           by_cases hlt2:q < n
           · obtain ⟨z, hz⟩ : ∃ z, l[q]? = some z := ⟨l[q]'(by have := HN.out; omega), List.getElem?_eq_getElem _⟩
             obtain ⟨b2,o2,rfl,hb2,p2⟩:=F2.out q z hz
             obtain ⟨z0,z1⟩:=HI.out z (List.mem_of_getElem? hz)
             obtain ⟨j,rfl⟩:∃ j:Nat,z=j:=⟨z.toNat,by omega⟩
             have hjm:j < k:=by omega
             obtain ⟨s, hs⟩ : ∃ s, T[j]? = some s := ⟨T[j]'(by have := HM.out; omega), List.getElem?_eq_getElem _⟩
             obtain ⟨b3,o3,rfl,hb3,p3⟩:=G1.out j s hs
             have HBW:=Lib.hid (HB.out.trans (HBO.out.mono HB.out.size))
             have q2:=(HBW.out.cell (p:=⟨b2,o2 + q,none⟩) hb2).trans p2
             have q3:=(HBO.out.cell (p:=⟨b3,o3 + j,none⟩) hb3).trans p3
             have HX:=Lib.hid (outG_snoc hz hs)
             have hz2:(outG T (l.take q)).length=q:=by unfold outG;rw [List.length_map,List.length_take];have:=HN.out;omega
             have HZ2:=Lib.hid hz2
             clear p2 p3 hz hs z0 z1 hz2
             go_wp2_with (at_builtin;refine wpList_append_str rfl _ _ rfl wp.heap.size _ (outG T (l.take q)) rfl (HO2.out.alloc _) ⟨wr.heap.size,0,none⟩ 1 rfl s (by simp [Addr.add]) (by have:=HZ2.out;omega) (by have:=HBO.out.size;simp;omega) ?_)
             intro g cap w4 ho4 hg4
             have HB4:Hid (Below wp.heap.size wp w4):=(HBO.out.alloc HBO.out.size _).grown hg4 (by have:=HBO.out.size;simp;omega) (fun g hg=>(HO2.out.lt g hg).1)
             rw [←HX.out] at ho4
             have HO4:=Lib.hid ho4
             clear ho4 hg4
             go_wp2
             go_roundw
             case rel=>exact ⟨q + 1,by omega,by go_num,HO4.out,HB4.out⟩
             case measure=>simp [intOf];omega
           · obtain rfl:q=n:=by omega
             have hlk:l.take q=l:=List.take_of_length_le (by rw [HN.out];exact Nat.le_refl _)
             have HO3:=Lib.hid (show ownsS wr wp.heap.size _ (outG T l) from hlk ▸ HO2.out)
             clear hlk
             go_wp2
             go_ret2
             rw [HR.out]
             exact ⟨_,_,rfl,HO3.out.mono HB.out.size,.inl (.inl ⟨rfl,rfl⟩),HB.out.trans (HBO.out.mono HB.out.size)⟩
   · obtain ⟨t,x,rfl⟩:=he.iface h1
     have HR:Hid (listF T l=([],ordG m 0 l 0)):=Lib.hid (by rw [HM.out];exact listF_ord H0.out (by rw [←HM.out];exact h1))
     have HE:=Lib.hid he
     clear he hb2
     go_wp2
     go_ret2
     rw [HR.out]
     exact ⟨_,_,rfl,ownsS_nil _ _,HE.out,HB2.out⟩
 · have he2:anyErr w1 err (dupR T):=.inl he
   obtain ⟨t,x,rfl⟩:=he2.iface h0
   have HR:Hid (listF T l=([],dupR T)):=Lib.hid (listF_dup h0)
   have HE:=Lib.hid he2
   have HB1:=Lib.hid hb1
   clear he he2 hb1
   go_wp2
   go_ret2
   rw [HR.out]
   exact ⟨_,_,rfl,ownsS_nil _ _,HE.out,HB1.out⟩
end Go.Proofs.YtjkbmfpomgcblaaGreatDoor
namespace Go.Proofs.YtjkbmfpomgcblaaGreatDoor
open Go.RowKit
set_option maxRecDepth 100000 in
set_option maxHeartbeats 2000000 in
theorem runspan_any (s:ByteArray) (w:World) (hs:s.size≤140737488351232) :
   Calls Tryz.prog 79 #[.string s] w fun r w'=>r=.returned (spanR (getS s.data.toList))∧w=w':=by
 have hs2:s.size≤maxLen:=by unfold maxLen;omega
 rcases getL_cases s.data.toList with ⟨e,hg,he⟩ | ⟨n,k,hg,hn,hk1,hk2,hk3⟩
 · have HP : Hid (spanR (getS s.data.toList) = .tuple #[.string ⟨#[]⟩, .int .i64 0, .int .i64 e]) := by
     show spanR _=_
     rw [getS_bad hg he];rfl
   have HG:=Lib.hid hg
   have hne:((e:Int) != 0)=true:=by simp;omega
   clear hg
   rw [HP.out]
   go_enter Tryz.func79,Tryz.ntmps79
   go_wp2_with (go_at_call 129;refine (unvary_bad _ _ hs2 e HG.out).mono ?_;rintro r w' ⟨rfl,rfl⟩)
   go_ret3
   exact ⟨rfl,rfl⟩
 · rw [←size_data] at hk3
   by_cases h2:2000 < n
   · have HP : Hid (spanR (getS s.data.toList) = .tuple #[.string ⟨#[]⟩, .int .i64 0, .int .i64 4]) := by
       show spanR _=_
       rw [getS_big hg h2];rfl
     have HG:=Lib.hid hg
     clear hg
     rw [HP.out]
     go_enter Tryz.func79,Tryz.ntmps79
     go_wp2_with (go_at_call 129;refine (unvary_ok _ _ hs2 n k HG.out).mono ?_;rintro r w' ⟨rfl,rfl⟩)
     go_ret3
     exact ⟨rfl,rfl⟩
   · have h2':n≤2000:=by omega
     by_cases h3:s.size < k + n
     · have HP : Hid (spanR (getS s.data.toList) = .tuple #[.string ⟨#[]⟩, .int .i64 0, .int .i64 7]) := by
         show spanR _=_
         rw [getS_miss hg h2 (by rw [←size_data];exact h3)];rfl
       have HG:=Lib.hid hg
       clear hg h2
       rw [HP.out]
       go_enter Tryz.func79,Tryz.ntmps79
       go_wp2_with (go_at_call 129;refine (unvary_ok _ _ hs2 n k HG.out).mono ?_;rintro r w' ⟨rfl,rfl⟩)
       go_ret3
       exact ⟨rfl,rfl⟩
     · have hx:s.extract k (k + n)=⟨((s.data.toList.drop k).take n).toArray⟩:=bs_ext (by rw [ext_data,List.drop_take,Nat.add_sub_cancel_left])
       have HP:Hid (spanR (getS s.data.toList)=.tuple #[.string (s.extract k (k + n)),.int .i64 ((k:Int) + n),.int .i64 0]):=by
         show spanR _=_
         rw [getS_ok hg h2 (by rw [←size_data];exact h3),hx];rfl
       have HG:=Lib.hid hg
       have h3':k + n≤s.size:=by omega
       clear hg h2 h3 hx
       rw [HP.out]
       go_enter Tryz.func79,Tryz.ntmps79
       go_wp2_with (go_at_call 129;refine (unvary_ok _ _ hs2 n k HG.out).mono ?_;rintro r w' ⟨rfl,rfl⟩)
       go_ret3
       exact ⟨rfl,rfl⟩
end Go.Proofs.YtjkbmfpomgcblaaGreatDoor
namespace Go.Proofs.YtjkbmfpomgcblaaGreatDoor
open Go.RowKit
theorem errV_bad {e:Nat} (h:e≠0):errV e=.iface 44 (.int .i64 e):=by unfold errV;rw [if_neg h]
theorem zigN_of {N:Int} (h0 : -1125899906842624≤N) (h1:N≤1125899906842624):0≤zigN N∧zigN N≤2251799813685249:=by unfold zigN;split <;> omega
theorem numB_size {K N:Int} (h:fitsN K N=true):(numB K N).size≤10:=by
 unfold numB
 unfold fitsN at h
 by_cases h3:K=3
 · rw [if_pos h3] at h ⊢
   simp only [Bool.and_eq_true,decide_eq_true_eq] at h
   have:=zigN_of h.1 h.2
   rw [bs_size];exact putL_le10 (by omega)
 · rw [if_neg h3] at h ⊢
   by_cases h4:K=4
   · rw [if_pos h4] at h ⊢
     simp only [Bool.and_eq_true,decide_eq_true_eq] at h
     rw [bs_size];exact putL_le10 (by omega)
   · rw [if_neg h4];decide
theorem spanB_le {s:ByteArray} (h:s.size≤300):(spanB s).size≤310:=by
 rw [spanB_size];have:=putL_le10 (n:=s.size) (by omega);omega
end Go.Proofs.YtjkbmfpomgcblaaGreatDoor
namespace Go.Proofs.YtjkbmfpomgcblaaGreatDoor
open Go.RowKit
set_option maxRecDepth 100000 in
theorem behind_any (v:Value) (l:List Ent) (w:World) (hv:IsEnts w v l) (h0:l≠[]) (hl:l.length≤1000000) (hr:∀ e∈l,0≤e.rep∧e.rep≤1000000) :
   Calls Tryz.prog 165 #[v] w fun r w'=>r=.returned (.int .i64 ((l.getLastD ⟨0,0⟩).rep + 2))∧w=w':=by
 have hlen:0 < l.length:=List.length_pos_iff.2 h0
 obtain ⟨a1,c1,rfl,f1⟩:=hv.form
 have ht:l[l.length - 1]? = some (l.getLastD ⟨0,0⟩):=by
   rw [←List.getLast?_eq_getElem?]
   cases l with
   | nil=>exact absurd rfl h0
   | cons e t=>simp [List.getLast?_cons]
 obtain ⟨b1,o1,rfl,_,p0,_⟩:=f1 _ _ ht
 have hm:=hr _ (List.mem_of_getElem? ht)
 generalize l.getLastD ⟨0,0⟩=e at *
 obtain ⟨rep,time⟩:=e
 simp only at p0 hm ⊢
 obtain ⟨n,hn⟩:∃ n,n=l.length:=⟨_,rfl⟩
 rw [←hn] at hl hlen p0 ⊢
 obtain ⟨j,hj⟩:∃ j,j=n - 1:=⟨_,rfl⟩
 rw [←hj] at p0
 have hj1:(n:Int) - 1=(j:Int):=by omega
 have hj2:j < n:=by omega
 clear hv f1 hn ht hr h0 hj
 go_enter Tryz.func165,Tryz.ntmps165
 go_wp2
 go_ret
 exact ⟨rfl,rfl⟩
end Go.Proofs.YtjkbmfpomgcblaaGreatDoor
namespace Go.Proofs.YtjkbmfpomgcblaaGreatDoor
open Go.RowKit
theorem step_append_ent (w:World) {ops:Array Oper} {o:Oper} {a:Act} {K:Act→World→Prop} {Q:Exit→Act→World→Prop} {E:Prop} (hgd:o.guard=none) (s x:Operand)
   (ho:o.op=.call { callee:=.builtin .append,args:=#[s,x],argTypes:=#[22,22] })
   (base:Nat) (v:Value) (l:List Ent) (hs:a.eval s=v) (hown:ownsE w base v l)
   (B c:Nat) (hx:a.eval x=.slice (some ⟨B,0,none⟩) 1 c) (t:Ent) (hcell:entBlk w B t)
   (hlen:l.length + 1≤1000000) (hbase:base≤w.heap.size)
   (h:∀ g cap w',ownsE w' base (.slice (some ⟨g,0,none⟩) (l.length + 1) cap) (l ++ [t])→w.grownBy w' v.ownBlock→(v.ownBlock=some g∨g=w.heap.size)→K (a.put o.dst (.slice (some ⟨g,0,none⟩) (l.length + 1) cap)) w') :
   if Region.wanted o (yielded ops a.tmps)=true then Oper.wp Tryz.prog o a w K Q else E:=by
 obtain ⟨i0,hi,hz0,hz1,hz2⟩:=info_parts info_ent
 refine step_append_lies w hgd s x 22 ho base 74 i0 (.agg #[.int .i64 0,.int .i64 0]) 2 16 Tryz.underlying22 hi hz0 hz1 hz2 rfl (by decide) v l.length (entsC l) hs hown ⟨B,0,none⟩ 1 c (entC t) hx rfl ?_ ?_ (by decide) (by unfold maxLen;omega) (by omega) hbase _ rfl ?_
 · intro j u hj
   have hadd:(⟨B,0,none⟩:Addr).add j=⟨B,j,none⟩:=by unfold Addr.add;split <;> simp_all
   rw [hadd,cell_of_row _ _ _ _ _ _ hcell,←hj]
   unfold entC;simp
 · intro u hu;simp [entC] at hu;rcases hu with rfl | rfl <;> rfl
 · intro g cap w' h1 h2 h3 _
   refine h g cap w' ?_ h2 h3
   unfold ownsE
   rw [List.length_append,entsC_app]
   simpa [entsC] using h1
theorem ownsR.last {w:World} {base g n cap:Nat} {l:List Value} {d:Value} (h:ownsR w base (.slice (some ⟨g,0,none⟩) n cap) (l ++ [d])) (hn:n=l.length + 1) :
   w.cell? ⟨g,l.length,none⟩=some d∧w.frozen? ⟨g,l.length,none⟩=false∧base≤g∧g < w.heap.size:=by
 subst hn
 have hlt:=h.lt g rfl
 unfold ownsR at h
 rw [List.length_append] at h
 refine ⟨?_,World.ownsRow.frozenAt h _,hlt.1,hlt.2⟩
 rw [World.ownsRow.cellAt h _ (by simp)]
 simp
end Go.Proofs.YtjkbmfpomgcblaaGreatDoor
