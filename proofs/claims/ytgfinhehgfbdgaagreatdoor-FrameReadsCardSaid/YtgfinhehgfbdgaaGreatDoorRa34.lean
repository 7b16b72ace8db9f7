import Derived.Test.YtgfinhehgfbdgaaGreatDoorRa33
namespace Go.Proofs.YtgfinhehgfbdgaaGreatDoor
open Go.RowKit
theorem rd_err {s:List UInt8} {f a e p:Nat} {l:List Tok} {b:List Nat} {pl:Int} (heq:rdF s s.length 0 [] []=rdF s (f+1) a l b) (hlt:a<s.length) (hg:getT (s.drop a)=.inl (e,p)) (hp:((a+p:Nat):Int)=pl):readF s=((e,pl),[]):=by
 rw [readF_bad (by rw [heq,rdF_bad hlt hg]),hp]
theorem TR.read {w wr w2:World} {lv bv v2:Value} {o:Obj} {l:List Tok} {b:List Nat} {t:Tok} (h:TR w wr lv bv l b) (ho:ownsK w2 (w.heap.size+2) v2 (l++[t])) (hg:(wr.alloc o).grownBy w2 lv.ownBlock):TR w (w2.setCell ⟨w.heap.size,0,none⟩ v2) v2 bv (l++[t]) b:=by
 obtain ⟨h1,h2,h3,h4,h5,h6⟩:=h;have hne:∀ k,k<w.heap.size+2→some k≠lv.ownBlock:=fun k hk e=>by
   have:=(h3.lt k e.symm).1;omega
 have r0:w2.heap[w.heap.size]? = some (.cells #[lv] 89 (0,0)):=by
   rw [hg.block _ (by simp;omega) (hne _ (by omega)),Below.heap_alloc _ _ _ (by omega)];exact h1
 have r1:w2.heap[w.heap.size+1]? = some (.cells #[.int .i64 0,.int .i64 (-1)] 29 (0,0)):=by
   rw [hg.block _ (by simp;omega) (hne _ (by omega)),Below.heap_alloc _ _ _ (by omega)];exact h2
 have hn:ownsN w2 (w.heap.size+2) bv b:=World.ownsRow.kept (h4.alloc o) hg (own_apart h4 h3 (show 3≠163 by decide));have hsz:w.heap.size+2≤w2.heap.size:=Nat.le_trans (by simp;omega) hg.size;refine ⟨?_,?_,ownsRow_setCell_below ho (show w.heap.size<_ by omega) _,ownsRow_setCell_below hn (show w.heap.size<_ by omega) _,?_,by simpa using hsz⟩
 · simp [World.setCell,Array.getElem?_modify,r0]
 · simp [World.setCell,Array.getElem?_modify,r1]
 · exact ((h5.alloc (by omega) _).grown hg (by simp;omega) (fun g hg=>by have:=(h3.lt g hg).1;omega)).setCell (Nat.le_refl _) _
theorem TR.same {w wr:World} {lv bv:Value} {l:List Tok} {b:List Nat} (h:TR w wr lv bv l b):TR w (((wr.setCell ⟨w.heap.size,0,none⟩ lv).setCell ⟨w.heap.size+1,0,none⟩ (.int .i64 0)).setCell ⟨w.heap.size+1,1,none⟩ (.int .i64 (-1))) lv bv l b:=by
 obtain ⟨h1,h2,h3,h4,h5,h6⟩:=h;refine ⟨?_,?_,?_,?_,((h5.setCell (Nat.le_refl _) _).setCell (Nat.le_succ _) _).setCell (Nat.le_succ _) _,by simpa using h6⟩
 · simp [World.setCell,Array.getElem?_modify,h1]
 · simp [World.setCell,Array.getElem?_modify,h2]
 · exact ownsRow_setCell_below (ownsRow_setCell_below (ownsRow_setCell_below h3 (show w.heap.size<_ by omega) _) (show w.heap.size+1<_ by omega) _) (show w.heap.size+1<_ by omega) _
 · exact ownsRow_setCell_below (ownsRow_setCell_below (ownsRow_setCell_below h4 (show w.heap.size<_ by omega) _) (show w.heap.size+1<_ by omega) _) (show w.heap.size+1<_ by omega) _
theorem rint_bad (s:ByteArray) (w:World) (hs:s.size≤maxLen) (e:Nat) (h:bkL s.data.toList=(0,0,e)) :
   Calls Tryz.prog 45 #[.string s,.int .i64 1023] w fun r w'=>r=.returned (.tuple #[.int .i64 0,.int .i64 0,.int .i64 e])∧w=w' :=
 (rint_any s 1023 w hs (by omega) (by omega)).mono fun r w' ⟨h1,h2⟩=>⟨h1.trans (by rw [bkL_int,h];rfl),h2⟩
theorem rint_ok (s:ByteArray) (w:World) (hs:s.size≤maxLen) (n k:Nat) (h:bkL s.data.toList=(n,k,0)) :
   Calls Tryz.prog 45 #[.string s,.int .i64 1023] w fun r w'=>r=.returned (.tuple #[.int .i64 n,.int .i64 k,.int .i64 0])∧w=w' :=
 (rint_any s 1023 w hs (by omega) (by omega)).mono fun r w' ⟨h1,h2⟩=>⟨h1.trans (by rw [bkL_int,h];rfl),h2⟩
theorem TR.out_kept {w wr w2:World} {lv bv:Value} {o:Obj} {l:List Tok} {b:List Nat} (h:TR w wr lv bv l b) (hg:(wr.alloc o).grownBy w2 lv.ownBlock):w2.cell? ⟨w.heap.size,0,none⟩=some lv∧w2.frozen? ⟨w.heap.size,0,none⟩=false:=by
 obtain ⟨h1,h2,h3,h4,h5,h6⟩:=h;have hne:some w.heap.size≠lv.ownBlock:=fun e=>by
   have:=(h3.lt _ e.symm).1;omega
 have r0:w2.heap[w.heap.size]? = some (.cells #[lv] 89 (0,0)):=by
   rw [hg.block _ (by simp;omega) hne,Below.heap_alloc _ _ _ (by omega)];exact h1
 exact ⟨cell_of_row _ _ 0 _ _ (0,0) r0,Lib.frozen_of_heap r0 0⟩
theorem TR.drew {w wr:World} {lv bv:Value} {l:List Tok} {b:List Nat} (h:TR w wr lv bv l b):TR w wr.drew lv bv l b:=⟨h.1,h.2.1,h.2.2.1,h.2.2.2.1,h.2.2.2.2.1.drew,h.2.2.2.2.2⟩
theorem grown_undrew {w w':World} {row:Option Nat} (h:w.drew.grownBy w' row):w.grownBy w' row:=⟨h.os,h.tape,h.output,h.size,h.block⟩
set_option maxRecDepth 100000 in
set_option maxHeartbeats 20000000 in
theorem rread_any (s:ByteArray) (w:World) (hs:s.size≤400000) :
   Calls Tryz.prog 85 #[.string s] w (RReadIs w s.data.toList):=by
 have hlen:s.data.toList.length=s.size:=(size_data s).symm;have HL:=Lib.hid hlen;have HS:Hid (s.size≤maxLen):=Lib.hid (show s.size≤maxLen by unfold maxLen;omega);have hmf:∀ (fn:Fn) (first cap:Array Value) (w:World),(Instr.makeFunc fn first cap).run Tryz.prog w=.ok (.func fn first cap) w:=fun _ _ _ _=>rfl
 clear hlen
 go_enter_defers Tryz.func85,Tryz.ntmps85
 go_wp2_with fail
 refine (good_any _).mono ?_;rintro r w1 ⟨rfl,hb1⟩;have hz1:w.heap.size+2≤w1.heap.size:=by have:=hb1.size;simpa using this
 have r0:w1.heap[w.heap.size]? = some (.cells #[.slice none 0 0] 89 (0,0)):=(hb1.block _ (by simp only [World.size_alloc];omega)).trans ((Below.heap_alloc _ _ _ (by simp only [World.size_alloc];omega)).trans (heap_alloc_new w _));have r1:w1.heap[w.heap.size+1]? = some (.cells #[.int .i64 0,.int .i64 0] 29 (0,0)):=(hb1.block _ (by simp only [World.size_alloc];omega)).trans (by have h:=heap_alloc_new (w.alloc (.cells #[.slice none 0 0] 89)) (.cells #[.int .i64 0,.int .i64 0] 29);simpa using h);have c0:w1.cell? ⟨w.heap.size+1,0,none⟩=some (.int .i64 0):=cell_of_row _ _ 0 _ _ (0,0) r1;have c1:w1.cell? ⟨w.heap.size+1,1,none⟩=some (.int .i64 0):=cell_of_row _ _ 1 _ _ (0,0) r1;have f0:w1.frozen? ⟨w.heap.size+1,0,none⟩=false:=Lib.frozen_of_heap r1 0;have f1:w1.frozen? ⟨w.heap.size+1,1,none⟩=false:=Lib.frozen_of_heap r1 1;have HTR:Hid (TR w ((w1.setCell ⟨w.heap.size+1,0,none⟩ (.int .i64 0)).setCell ⟨w.heap.size+1,1,none⟩ (.int .i64 (-1))) (.slice none 0 0) (.slice none 0 0) [] []):=by
   refine ⟨?_,?_,ownsK_nil _ _,ownsN_nil _ _,?_,by simpa using hz1⟩
   · simp [World.setCell,Array.getElem?_modify,r0]
   · simp [World.setCell,Array.getElem?_modify,r1]
   · exact (((((Below.refl _ _).alloc (Nat.le_refl _) _).alloc (by simp) _).trans (hb1.mono (by simp;omega))).setCell (by simp) _).setCell (by simp) _
 clear hb1 r0 r1 hz1;go_wp2
 go_loopw [4,5] (fun bv av wr=>∃ (f a:Nat) (lv:Value) (l:List Tok) (b:List Nat),av=.int .i64 a∧a≤s.size∧s.size≤a+f∧l.length≤a∧b.length=l.length∧(∀ t∈l,t.own.size≤140737488351232)∧rdF s.data.toList s.data.toList.length 0 [] []=rdF s.data.toList f a l b∧TR w wr lv bv l b) (fun _ av _=>s.size-(intOf av).toNat)
 case atStart=>exact ⟨s.size,0,_,[],[],rfl,by omega,by omega,by simp,rfl,(fun t h=>by cases h),by rw [HL.out],HTR.out⟩
 case round =>
   clear HTR;obtain ⟨f,a,lv,l,b,rfl,ha,hf,hla,hbl,hz,heq,htr⟩:=hrel;have HZ:=Lib.hid hz;have HBL:=Lib.hid hbl;have HEQ:=Lib.hid heq;have HT:=Lib.hid htr;clear hz hbl heq htr;by_cases hlt:a<s.size
   · obtain ⟨f',rfl⟩:∃ f',f=f'+1:=⟨f-1,by omega⟩;have hlt':a<s.data.toList.length:=by rw [HL.out];exact hlt
     have HD:=Lib.hid (ext_drop s a);have hdl:(s.data.toList.drop a).length=s.size-a:=by rw [List.length_drop,HL.out]
     have HM:Hid ((s.extract a s.size).size≤maxLen):=Lib.hid (show (s.extract a s.size).size≤maxLen by rw [ByteArray.size_extract];unfold maxLen;omega);have d3:(0:Int)≤(a:Int):=by omega
     have d4:(a:Int)≤(s.size:Int):=by omega
     rcases getL_cases (s.data.toList.drop a) with ⟨e,hg,he⟩ | ⟨n,k,hg,hn,hk1,hk2,hk3⟩
     · have HRD:=Lib.hid (rd_err (pl:=(a:Int)) HEQ.out hlt' (getT_num hg he) (by omega));have HGL:Hid (getL (s.extract a s.size).data.toList=(0,0,e)):=Lib.hid (show getL (s.extract a s.size).data.toList=(0,0,e) by rw [HD.out];exact hg);have HNE:=Lib.hid he;have hne:((e:Int) != 0)=true:=by simp;omega
       clear hg he hdl hlt';go_wp2_with (at_builtin;refine wpList_append_int rfl _ _ rfl (w.heap.size+2) _ b rfl (HT.out.2.2.2.1.alloc _) ⟨wr.heap.size,0,none⟩ 1 rfl a ?c4 ?c5 ?c6 ?_)
       case c4=>simp [Addr.add]
       case c5=>have:=HBL.out;omega
       case c6=>have:=HT.out.2.2.2.2.2;simp;omega
       intro g' cap' w2 ho2 hg2;have HT2:Hid (TR w w2 lv (.slice (some ⟨g',0,none⟩) (b.length+1) cap') l (b++[a])):=HT.out.begun ho2 hg2;clear ho2 hg2;go_wp2_with fail
       refine (unvary_bad _ _ HM.out e HGL.out).mono ?_;rintro r w' ⟨rfl,rfl⟩;go_wp2_with fail
       refine (throw_any e (a:Int) _).mono ?_;rintro r w' ⟨rfl,rfl⟩;exact door_bad e (a:Int) HT2.out HNE.out HRD.out _ rfl rfl
     · rw [hdl] at hk3;have HGL:Hid (getL (s.extract a s.size).data.toList=(n,k,0)):=Lib.hid (show getL (s.extract a s.size).data.toList=(n,k,0) by rw [HD.out];exact hg);have HEQ2:Hid (a+(s.size-a)=s.size):=Lib.hid (show a+(s.size-a)=s.size by omega);by_cases h2:n % 2=0
       · have b2:((n:Int) % 2 == 0)=true:=by simp;omega
         by_cases h0:n=0
         · subst h0;have HRD:=Lib.hid (rd_err (pl:=(a:Int)) HEQ.out hlt' (getT_zero hg) (by omega));have HNE:Hid ((3:Nat)≠0):=Lib.hid (by decide);clear hg hdl hlt' h2 b2;go_wp2_with (at_builtin;refine wpList_append_int rfl _ _ rfl (w.heap.size+2) _ b rfl (HT.out.2.2.2.1.alloc _) ⟨wr.heap.size,0,none⟩ 1 rfl a ?c4 ?c5 ?c6 ?_)
           case c4=>simp [Addr.add]
           case c5=>have:=HBL.out;omega
           case c6=>have:=HT.out.2.2.2.2.2;simp;omega
           intro g' cap' w2 ho2 hg2;have HT2:Hid (TR w w2 lv (.slice (some ⟨g',0,none⟩) (b.length+1) cap') l (b++[a])):=HT.out.begun ho2 hg2;clear ho2 hg2;go_wp2_with fail
           refine (unvary_ok _ _ HM.out 0 k HGL.out).mono ?_;rintro r w' ⟨rfl,rfl⟩;go_wp2_with fail
           refine (throw_any 3 (a:Int) _).mono ?_;rintro r w' ⟨rfl,rfl⟩;exact door_bad 3 (a:Int) HT2.out HNE.out HRD.out _ rfl rfl
         · have b3:((n:Int) == 0)=false:=by simp;omega
           obtain ⟨h,hh⟩:∃ h,h=n / 2:=⟨_,rfl⟩;obtain ⟨q,hq⟩:∃ q,q=a+k:=⟨_,rfl⟩;have d7:(n:Int) / 2=(h:Int):=by omega
           have d9:(a:Int)+(k:Int)=(q:Int):=by omega
           by_cases hl:s.size-a<k+n / 2
           · have HRD:=Lib.hid (rd_err (pl:=(s.size:Int)) HEQ.out hlt' (getT_miss hg h2 h0 (by rw [hdl];exact hl)) (by rw [hdl,HEQ2.out]));have HNE:Hid ((7:Nat)≠0):=Lib.hid (by decide);by_cases hbig:s.size<h
             · have d5:(s.size:Int)<(h:Int):=by omega
               clear hg hdl hlt' h2 hh hq d9;go_wp2_with (at_builtin;refine wpList_append_int rfl _ _ rfl (w.heap.size+2) _ b rfl (HT.out.2.2.2.1.alloc _) ⟨wr.heap.size,0,none⟩ 1 rfl a ?c4 ?c5 ?c6 ?_)
               case c4=>simp [Addr.add]
               case c5=>have:=HBL.out;omega
               case c6=>have:=HT.out.2.2.2.2.2;simp;omega
               intro g' cap' w2 ho2 hg2;have HT2:Hid (TR w w2 lv (.slice (some ⟨g',0,none⟩) (b.length+1) cap') l (b++[a])):=HT.out.begun ho2 hg2;clear ho2 hg2;go_wp2_with fail
               refine (unvary_ok _ _ HM.out n k HGL.out).mono ?_;rintro r w' ⟨rfl,rfl⟩;go_wp2_with fail
               refine (throw_any 7 (s.size:Int) _).mono ?_;rintro r w' ⟨rfl,rfl⟩;exact door_bad 7 (s.size:Int) HT2.out HNE.out HRD.out _ rfl rfl
             · have d5:(h:Int)≤(s.size:Int):=by omega
               have d6:(s.size:Int)<(q:Int)+(h:Int):=by omega
               have d8:(q:Int)≤1000000:=by omega
               clear hg hdl hlt' h2 hh hq;go_wp2_with (at_builtin;refine wpList_append_int rfl _ _ rfl (w.heap.size+2) _ b rfl (HT.out.2.2.2.1.alloc _) ⟨wr.heap.size,0,none⟩ 1 rfl a ?c4 ?c5 ?c6 ?_)
               case c4=>simp [Addr.add]
               case c5=>have:=HBL.out;omega
               case c6=>have:=HT.out.2.2.2.2.2;simp;omega
               intro g' cap' w2 ho2 hg2;have HT2:Hid (TR w w2 lv (.slice (some ⟨g',0,none⟩) (b.length+1) cap') l (b++[a])):=HT.out.begun ho2 hg2;clear ho2 hg2;go_wp2_with fail
               refine (unvary_ok _ _ HM.out n k HGL.out).mono ?_;rintro r w' ⟨rfl,rfl⟩;go_wp2_with fail
               refine (throw_any 7 (s.size:Int) _).mono ?_;rintro r w' ⟨rfl,rfl⟩;exact door_bad 7 (s.size:Int) HT2.out HNE.out HRD.out _ rfl rfl
           · obtain ⟨e2,he2⟩:∃ e2,e2=q+h:=⟨_,rfl⟩;have hD2:(s.extract q e2).data.toList=((s.data.toList.drop a).drop k).take h:=by
               rw [ext_data,List.drop_drop,List.drop_take,he2,hq];congr 1;omega
             have hgt:=getT_own hg h2 h0 (by rw [hdl];exact hl);rw [←hh,show (⟨⟨(((s.data.toList.drop a).drop k).take h).toArray⟩,0,0⟩:Tok)=⟨s.extract q e2,0,0⟩ by rw [←hD2,bs_of]] at hgt;have HE:Hid (rdF s.data.toList s.data.toList.length 0 [] []=rdF s.data.toList f' (a+(k+h)) (l++[⟨s.extract q e2,0,0⟩]) (b++[a])):=Lib.hid (show rdF s.data.toList s.data.toList.length 0 [] []=rdF s.data.toList f' (a+(k+h)) (l++[⟨s.extract q e2,0,0⟩]) (b++[a]) by rw [HEQ.out,rdF_ok hlt' hgt]);have HZ2:Hid (∀ u∈l++[(⟨s.extract q e2,0,0⟩:Tok)],u.own.size≤140737488351232):=Lib.hid (show ∀ u∈l++[(⟨s.extract q e2,0,0⟩:Tok)],u.own.size≤140737488351232 from fun u hu=>by
               rcases List.mem_append.1 hu with hu | hu
               · exact HZ.out u hu
               · rw [List.mem_singleton.1 hu];show (s.extract q e2).size≤_;rw [ByteArray.size_extract];omega)
             have HMJ:Hid (a+(k+h)≤s.size∧s.size≤a+(k+h)+f'∧1≤k):=Lib.hid ⟨by omega,by omega,hk1⟩;have d5:(h:Int)≤(s.size:Int):=by omega
             have d6:(q:Int)+(h:Int)≤(s.size:Int):=by omega
             have d8:(q:Int)≤1000000:=by omega
             have dA:(e2:Int)≤(s.size:Int):=by omega
             have dB:(q:Int)≤(e2:Int):=by omega
             have dC:(0:Int)≤(q:Int):=by omega
             have dD:(0:Int)≤(e2:Int):=by omega
             have k1':IntKind.i64.wrap ((a:Int)+(k:Int))=(q:Int):=by rw [d9];exact IntWalk.i64_in _ (by omega)
             have k2':IntKind.i64.wrap ((q:Int)+(h:Int))=(e2:Int):=by rw [show (q:Int)+(h:Int)=(e2:Int) by omega];exact IntWalk.i64_in _ (by omega)
             have k3':IntKind.i64.wrap (h:Int)=(h:Int):=IntWalk.i64_in _ (by omega);have k4':IntKind.i64.wrap (q:Int)=(q:Int):=IntWalk.i64_in _ (by omega);have k5':IntKind.i64.wrap (e2:Int)=(e2:Int):=IntWalk.i64_in _ (by omega);have k6':(n:Int).tdiv 2=(h:Int):=by rw [Int.tdiv_eq_ediv_of_nonneg (by omega)];exact d7
             have k7':IntKind.u64.wrap (h:Int)=(h:Int):=IntWalk.u64_in _ (by omega);have k8':(q:Int)+(h:Int)=(e2:Int):=by omega
             have n1:q≤e2:=by omega
             have n2:e2≤s.size:=by omega
             have HLN:Hid (l.length+1≤1000000):=Lib.hid (show l.length+1≤1000000 by omega);have HBS:=Lib.hid HT.out.2.2.2.2.2;clear hg hdl hlt' h2 hh hq hgt hD2 he2;go_wp2_with (at_builtin;refine wpList_append_int rfl _ _ rfl (w.heap.size+2) _ b rfl (HT.out.2.2.2.1.alloc _) ⟨wr.heap.size,0,none⟩ 1 rfl a ?c4 ?c5 ?c6 ?_)
             case c4=>simp [Addr.add]
             case c5=>have:=HBL.out;omega
             case c6=>have:=HT.out.2.2.2.2.2;simp;omega
             intro g' cap' w2 ho2 hg2;have HT2:Hid (TR w w2 lv (.slice (some ⟨g',0,none⟩) (b.length+1) cap') l (b++[a])):=HT.out.begun ho2 hg2;clear ho2 hg2;go_wp2_with fail
             refine (unvary_ok _ _ HM.out n k HGL.out).mono ?_;rintro r w' ⟨rfl,rfl⟩;obtain ⟨o0,o1,_⟩:=HT2.out.cells;have o0':(w2.alloc (.cells #[.string (s.extract q e2),.int .i64 0,.int .i64 0] 163)).cell? ⟨w.heap.size,0,none⟩=some lv:=((HT2.out.alloc _).cells).1;go_wp2;refine wp_region_noPanic ?_
             go_region_law (first | (refine step_append_tok _ rfl _ _ rfl (w.heap.size+2) _ l rfl (HT2.out.2.2.1.alloc _) w2.heap.size 1 rfl ⟨s.extract q e2,0,0⟩ (by exact tokBlk_new w2 _ _ _) HLN.out (by have:=HT2.out.2.2.2.2.2;simp;omega) ?_;intro g cap w3 ho3 hg3;have hg4:=grown_undrew hg3;obtain ⟨u0,u1⟩:=HT2.out.out_kept hg4;have HT3:=Lib.hid (HT2.out.read ho3 hg4);clear ho3 hg3 hg4))
             all_goals
               refine NoPanic.normal ?_;obtain ⟨l1,hl1⟩:∃ l1,l++[(⟨s.extract q e2,0,0⟩:Tok)]=l1:=⟨_,rfl⟩;have hll:l1.length=l.length+1:=by rw [←hl1];simp
               rw [hl1] at HT3 HE HZ2;have HBL2:Hid ((b++[a]).length=l1.length):=Lib.hid (show (b++[a]).length=l1.length by rw [hll,List.length_append,HBL.out];rfl);clear hl1 o0 o1;go_wp2;go_roundw
               case rel=>obtain ⟨z1,z2,z3⟩:=HMJ.out;exact ⟨f',a+(k+h),_,l1,b++[a],by go_num,z1,z2,by omega,HBL2.out,HZ2.out,HE.out,HT3.out⟩
               case measure=>obtain ⟨z1,z2,z3⟩:=HMJ.out;simp [intOf];omega
       · have b2:((n:Int) % 2 == 0)=false:=by simp;omega
         obtain ⟨h,hh⟩:∃ h,h=n / 2:=⟨_,rfl⟩;obtain ⟨q,hq⟩:∃ q,q=a+k:=⟨_,rfl⟩;have d7:(n:Int) / 2=(h:Int):=by omega
         have d9:(a:Int)+(k:Int)=(q:Int):=by omega
         by_cases hb:63<n / 2
         · have HRD:=Lib.hid (rd_err (pl:=(a:Int)) HEQ.out hlt' (getT_big hg h2 hb) (by omega));have HNE:Hid ((2:Nat)≠0):=Lib.hid (by decide);have d5:67<(h:Int)+4:=by omega
           have d6:(h:Int)≤9223372036854775807:=by omega
           clear hg hdl hlt' h2 hh hq d9;go_wp2_with (at_builtin;refine wpList_append_int rfl _ _ rfl (w.heap.size+2) _ b rfl (HT.out.2.2.2.1.alloc _) ⟨wr.heap.size,0,none⟩ 1 rfl a ?c4 ?c5 ?c6 ?_)
           case c4=>simp [Addr.add]
           case c5=>have:=HBL.out;omega
           case c6=>have:=HT.out.2.2.2.2.2;simp;omega
           intro g' cap' w2 ho2 hg2;have HT2:Hid (TR w w2 lv (.slice (some ⟨g',0,none⟩) (b.length+1) cap') l (b++[a])):=HT.out.begun ho2 hg2;clear ho2 hg2;go_wp2_with fail
           refine (unvary_ok _ _ HM.out n k HGL.out).mono ?_;rintro r w' ⟨rfl,rfl⟩;go_wp2_with fail
           refine (throw_any 2 (a:Int) _).mono ?_;rintro r w' ⟨rfl,rfl⟩;exact door_bad 2 (a:Int) HT2.out HNE.out HRD.out _ rfl rfl
         · have d5:(h:Int)+4≤67:=by omega
           have d8:(q:Int)≤(s.size:Int):=by omega
           have dB:(0:Int)≤(q:Int):=by omega
           have hE2:(s.data.toList.drop a).drop k=(s.extract q s.size).data.toList:=by rw [ext_drop,List.drop_drop,hq]
           have HM2:Hid ((s.extract q s.size).size≤maxLen):=Lib.hid (show (s.extract q s.size).size≤maxLen by rw [ByteArray.size_extract];unfold maxLen;omega);rcases bkL_cases ((s.data.toList.drop a).drop k) with ⟨e,hk,he⟩ | ⟨m,j,hk,hm,hm2⟩
           · have HRD:=Lib.hid (rd_err (pl:=(q:Int)) HEQ.out hlt' (getT_back hg h2 hb hk he) (by omega));rw [hE2] at hk;have HK:=Lib.hid hk;have HNE:=Lib.hid he;have hne:((e:Int) != 0)=true:=by simp;omega
             clear hg hdl hlt' h2 hh hq hE2 hk he;go_wp2_with (at_builtin;refine wpList_append_int rfl _ _ rfl (w.heap.size+2) _ b rfl (HT.out.2.2.2.1.alloc _) ⟨wr.heap.size,0,none⟩ 1 rfl a ?c4 ?c5 ?c6 ?_)
             case c4=>simp [Addr.add]
             case c5=>have:=HBL.out;omega
             case c6=>have:=HT.out.2.2.2.2.2;simp;omega
             intro g' cap' w2 ho2 hg2;have HT2:Hid (TR w w2 lv (.slice (some ⟨g',0,none⟩) (b.length+1) cap') l (b++[a])):=HT.out.begun ho2 hg2;clear ho2 hg2;go_wp2_with fail
             refine (unvary_ok _ _ HM.out n k HGL.out).mono ?_;rintro r w' ⟨rfl,rfl⟩;go_wp2_with fail
             refine (rint_bad _ _ HM2.out e HK.out).mono ?_;rintro r w' ⟨rfl,rfl⟩;go_wp2_with fail
             refine (throw_any e (q:Int) _).mono ?_;rintro r w' ⟨rfl,rfl⟩;exact door_bad e (q:Int) HT2.out HNE.out HRD.out _ rfl rfl
           · have hgt:=getT_rep hg h2 hb hk;have HE:Hid (rdF s.data.toList s.data.toList.length 0 [] []=rdF s.data.toList f' (a+(k+j)) (l++[repT (m+1) (h+4)]) (b++[a])):=Lib.hid (show rdF s.data.toList s.data.toList.length 0 [] []=rdF s.data.toList f' (a+(k+j)) (l++[repT (m+1) (h+4)]) (b++[a]) by rw [HEQ.out,rdF_ok hlt' hgt,hh]);obtain ⟨_,g2,_⟩:=getT_only hgt;rw [hdl] at g2;rw [hE2] at hk;have HK:=Lib.hid hk;have hj2:(j:Int)≤1000000:=by omega
             have HZ2:Hid (∀ u∈l++[repT (m+1) (h+4)],u.own.size≤140737488351232):=Lib.hid (show ∀ u∈l++[repT (m+1) (h+4)],u.own.size≤140737488351232 from fun u hu=>by
               rcases List.mem_append.1 hu with hu | hu
               · exact HZ.out u hu
               · rw [List.mem_singleton.1 hu];exact Nat.zero_le _)
             have HTQ:Hid (repT (m+1) (h+4)=⟨⟨#[]⟩,(m:Int)+1,(h:Int)+4⟩):=Lib.hid (show repT (m+1) (h+4)=⟨⟨#[]⟩,(m:Int)+1,(h:Int)+4⟩ by unfold repT;simp);have HMJ:Hid (a+(k+j)≤s.size∧s.size≤a+(k+j)+f'∧1≤k):=Lib.hid ⟨by omega,by omega,hk1⟩;clear hg hdl hlt' h2 hh hq hE2 hk hgt hm;go_wp2_with (at_builtin;refine wpList_append_int rfl _ _ rfl (w.heap.size+2) _ b rfl (HT.out.2.2.2.1.alloc _) ⟨wr.heap.size,0,none⟩ 1 rfl a ?c4 ?c5 ?c6 ?_)
             case c4=>simp [Addr.add]
             case c5=>have:=HBL.out;omega
             case c6=>have:=HT.out.2.2.2.2.2;simp;omega
             intro g' cap' w2 ho2 hg2;have HT2:Hid (TR w w2 lv (.slice (some ⟨g',0,none⟩) (b.length+1) cap') l (b++[a])):=HT.out.begun ho2 hg2;clear ho2 hg2;go_wp2_with fail
             refine (unvary_ok _ _ HM.out n k HGL.out).mono ?_;rintro r w' ⟨rfl,rfl⟩;go_wp2_with fail
             refine (rint_ok _ _ HM2.out m j HK.out).mono ?_;rintro r w' ⟨rfl,rfl⟩;obtain ⟨o0,o1,_⟩:=HT2.out.cells;rw [HTQ.out] at HE HZ2;go_wp2_with (at_builtin;refine wpList_append_tok rfl _ _ rfl (w.heap.size+2) _ l rfl (HT2.out.2.2.1.alloc _) _ 1 rfl ⟨⟨#[]⟩,(m:Int)+1,(h:Int)+4⟩ ?c7 ?c8 ?c9 ?_)
             case c7=>exact tokBlk_new _ _ _ _
             case c8=>omega
             case c9=>have:=HT2.out.2.2.2.2.2;simp;omega
             intro g cap w3 ho3 hg3;obtain ⟨u0,u1⟩:=HT2.out.out_kept hg3;have HT3:=Lib.hid (HT2.out.read ho3 hg3);obtain ⟨l1,hl1⟩:∃ l1,l++[(⟨⟨#[]⟩,(m:Int)+1,(h:Int)+4⟩:Tok)]=l1:=⟨_,rfl⟩;have hll:l1.length=l.length+1:=by rw [←hl1];simp
             rw [hl1] at HT3 HE HZ2;have HBL2:Hid ((b++[a]).length=l1.length):=Lib.hid (show (b++[a]).length=l1.length by rw [hll,List.length_append,HBL.out];rfl);clear ho3 hg3 hl1 o0 o1;go_wp2;go_roundw
             case rel=>obtain ⟨z1,z2,z3⟩:=HMJ.out;exact ⟨f',a+(k+j),_,l1,b++[a],by go_num,z1,z2,by omega,HBL2.out,HZ2.out,HE.out,HT3.out⟩
             case measure=>obtain ⟨z1,z2,z3⟩:=HMJ.out;simp [intOf];omega
   · have hlt':¬ a<s.data.toList.length:=by rw [HL.out];exact hlt
     have hE:rdF s.data.toList s.data.toList.length 0 [] []=.inr (l,b):=by rw [HEQ.out,rdF_end hlt']
     have HIS:=Lib.hid HT.out.2.2.1.is;have hll:l.length≤9223372036854775807:=by omega
     obtain ⟨o0,o1,_⟩:=HT.out.cells;by_cases hr:(rightF l 0 0).1=0
     · obtain ⟨a5,c5,hlv,_⟩:=HT.out.2.2.1.is.form;subst hlv;have HRD:=Lib.hid (readF_ok hE hr);have HFV:Hid (faultV (rightF l 0 0)=.agg #[.int .i64 0,.int .i64 (-1)]):=Lib.hid (show faultV (rightF l 0 0)=.agg #[.int .i64 0,.int .i64 (-1)] by rw [rightF_any hr];rfl);clear hlt' hE hr;go_wp2_with fail
       refine (rright_any _ l _ HIS.out hll HZ.out).mono ?_;rintro r w2 ⟨rfl,hb2⟩;rw [HFV.out];have HT2:=Lib.hid (HT.out.below hb2);clear hb2 o0 o1;go_wp2_with fail
       refine (is_any 0 (-1) _).mono ?_;rintro r w3 ⟨rfl,hb3⟩;have HT3:=Lib.hid ((HT2.out.alloc _).below hb3);obtain ⟨o0,o1,c0',c1',z0',z1'⟩:=HT3.out.cells;clear hb3;go_wp2;go_region
       go_wp2
       all_goals (first | exact door_good HT3.out.drew.same HRD.out _ rfl rfl | exact door_good HT3.out.same.drew HRD.out _ rfl rfl)
     · obtain ⟨j,hj,hjl⟩:=rightF_bound hr;rw [Nat.zero_add] at hj;obtain ⟨e,he⟩:∃ e,(rightF l 0 0).1=e:=⟨_,rfl⟩;obtain ⟨q,hq⟩:∃ q,b.getD j 0=q:=⟨_,rfl⟩;have hre:rightF l 0 0=(e,(j:Int)):=Prod.ext he hj;have HRD:Hid (readF s.data.toList=((e,(q:Int)),[])):=Lib.hid (show readF s.data.toList=((e,(q:Int)),[]) by rw [readF_wrong hE hr,hre];simp only [Int.toNat_natCast];rw [hq]);have HNE:Hid (e≠0):=Lib.hid (by rw [←he];exact hr);have hbe:((e:Int) == 0)=false:=by have:=HNE.out;simp;omega
       have HBE:=Lib.hid hbe;have HFV:Hid (faultV (rightF l 0 0)=.agg #[.int .i64 e,.int .i64 j]):=Lib.hid (show faultV (rightF l 0 0)=.agg #[.int .i64 e,.int .i64 j] by rw [hre];rfl);have hon:=HT.out.2.2.2.1;rcases hon.forms with ⟨_,hnil⟩ | ⟨g,cap,hbv,hbg,hgl,hcells⟩
       · exact absurd hjl (by have:=HBL.out;rw [hnil] at this;simp at this;omega)
       · subst hbv;have hcj:=hcells j (by have:=HBL.out;omega);rw [hq] at hcj;have hjb:(j:Int)<(b.length:Int):=by have:=HBL.out;omega
         have hj0:(0:Int)≤(j:Int):=by omega
         obtain ⟨n,hn⟩:∃ n,n=b.length:=⟨_,rfl⟩;rw [←hn] at hjb HT ⊢;clear hlt' hE hr hj he hre hbe hon hcells hbg hq hn;go_wp2_with fail
         refine (rright_any _ l _ HIS.out hll HZ.out).mono ?_;rintro r w2 ⟨rfl,hb2⟩;rw [HFV.out];have HT2:=Lib.hid (HT.out.below hb2);have hcj2:w2.cell? ⟨g,j,none⟩=some (.int .i64 (q:Int)):=(hb2.cell hgl).trans hcj;have hgl2:g<w2.heap.size:=Nat.lt_of_lt_of_le hgl hb2.size;clear hb2 hcj o0 o1;go_wp2_with fail
         refine (is_any e j _).mono ?_;rintro r w3 ⟨rfl,hb3⟩;rw [HBE.out];have HT3:=Lib.hid ((HT2.out.alloc _).below hb3);have u0:w3.cell? ⟨w2.heap.size,0,none⟩=some (.int .i64 e):=(hb3.cell (by simp)).trans (by simp);have u1:w3.cell? ⟨w2.heap.size,1,none⟩=some (.int .i64 j):=(hb3.cell (by simp)).trans (by simp);have hcj3:w3.cell? ⟨g,j,none⟩=some (.int .i64 (q:Int)):=(hb3.cell (by simp;omega)).trans ((((Below.refl _ _).alloc (Nat.le_refl _) _).cell hgl2).trans hcj2);clear hb3 hcj2;go_wp2
         go_still_tail 7,(by kernel_rfl)
         change wpList _ _ _ _ _ w3.drew
         have HT3d:=Lib.hid HT3.out.drew;generalize w3.drew=w4 at HT3d ⊢;go_wp2_with fail
         refine (throw_any e (q:Int) _).mono ?_;rintro r w' ⟨rfl,rfl⟩;exact door_bad e (q:Int) HT3d.out HNE.out HRD.out _ rfl rfl
end Go.Proofs.YtgfinhehgfbdgaaGreatDoor
