import Derived.Test.YtgfinhehgfbdgaaGreatDoorRa32
namespace Go.Proofs.YtgfinhehgfbdgaaGreatDoor
open Go.RowKit
theorem stepT_cyc (b:List UInt8) (s:ByteArray) (k n:Nat) (h1:1≤k) (h2:k≤b.length) (h0:s.size=0) :
   stepT b ⟨s,(k:Int),(n:Int)⟩=b++cyc (b.drop (b.length-k)) n:=by
 have hs:s.data.toList=[]:=List.length_eq_zero_iff.1 (by rw [←size_data];exact h0);unfold stepT;simp only [Int.toNat_natCast]
 rw [hs,List.append_nil,repL_cyc b k n h1 h2]
set_option maxRecDepth 100000 in
set_option maxHeartbeats 4000000 in
theorem rtext_any (v:Value) (l:List Tok) (w:World) (hv:IsToks w v l) (hl:l.length≤9223372036854775807) (hz:∀ t∈l,t.own.size≤140737488351232) :
   Calls Tryz.prog 86 #[v] w fun e w'=>e=.returned (.tuple #[.string ⟨(textF l).toArray⟩,faultV (rightF l 0 0)])∧Below w.heap.size w w':=by
 have HV:=Lib.hid hv;have HLL:=Lib.hid hl;have HZ:=Lib.hid hz;obtain ⟨e,pl,hr⟩:∃ e pl,rightF l 0 0=(e,pl):=⟨_,_,rfl⟩;have HR:Hid (faultV (rightF l 0 0)=.agg #[.int .i64 e,.int .i64 pl]):=by
   have h:faultV (rightF l 0 0)=.agg #[.int .i64 e,.int .i64 pl]:=by rw [hr];rfl
   exact h
 have HVA:=Lib.hid (hv.alloc (.cells #[.int .i64 0,.int .i64 0] 29));by_cases he:e=0
 · subst he;have hpl:pl=-1:=by have:=rightF_any (l:=l) (i:=0) (a:=0) (by rw [hr]);rw [hr] at this;exact (Prod.mk.inj this).2
   subst hpl;have HT:Hid (textF l=textL [] l):=by
     have h:textF l=textL [] l:=by unfold textF;rw [if_pos (by rw [hr])]
     exact h
   have HR0:=Lib.hid hr;obtain ⟨a1,c1,rfl,f1⟩:=hv.form;have F1:=Lib.hid f1;obtain ⟨n,hn⟩:∃ n,n=l.length:=⟨_,rfl⟩;rw [←hn] at hl ⊢ HV HVA;have HN:=Lib.hid hn;clear hv f1 hn hz hr;go_enter Tryz.func86,Tryz.ntmps86
   go_wp2_with fail
   refine (rright_any _ l _ HVA.out HLL.out HZ.out).mono ?_;rintro r w0 ⟨rfl,hb0⟩;rw [HR.out];have HB0:=Lib.hid hb0;have hz0:=hb0.size;rw [World.size_alloc] at hz0;clear hb0;go_wp2_with fail
   refine (is_any 0 (-1) _).mono ?_;rintro r w1 ⟨rfl,hb1⟩;have HB1:Hid (Below (w.heap.size+1) (w.alloc (.cells #[.int .i64 0,.int .i64 0] 29)) w1):=(HB0.out.mono (by simp)).alloc (by omega) _ |>.trans (hb1.mono (by simp;omega))
   clear hb1;go_wp2
   go_loopw [5,17] (fun o i wr=>∃ (k:Nat) (out:ByteArray),k≤n∧i=.int .i64 k∧o=.string out∧textL [] l=textL out.data.toList (l.drop k)∧(rightF (l.drop k) k out.size).1=0∧out.size≤20000∧Below (w.heap.size+1) (w.alloc (.cells #[.int .i64 0,.int .i64 0] 29)) wr) (fun _ i _=>n-(intOf i).toNat)
   case atStart=>exact ⟨0,⟨#[]⟩,by omega,rfl,rfl,rfl,by rw [List.drop_zero];show (rightF l 0 0).1=0;rw [HR0.out],by decide,HB1.out⟩
   case round =>
     obtain ⟨k,out,hk,rfl,rfl,htx,hrt,hac,hbel⟩:=hrel;have HTX:=Lib.hid htx;have HRT:=Lib.hid hrt;have HB:=Lib.hid hbel;have hzr:=hbel.size;rw [World.size_alloc] at hzr;have HBW:Hid (Below w.heap.size w wr):=((Below.refl _ _).alloc (Nat.le_refl _) _).trans (hbel.mono (Nat.le_succ _));have x0:wr.cell? ⟨w.heap.size,0,none⟩=some (.int .i64 0):=(hbel.cell (by exact Nat.lt_succ_self _)).trans (by simp);have x1:wr.cell? ⟨w.heap.size,1,none⟩=some (.int .i64 0):=(hbel.cell (by exact Nat.lt_succ_self _)).trans (by simp);have y0:wr.frozen? ⟨w.heap.size,0,none⟩=false:=(hbel.frozen (by exact Nat.lt_succ_self _)).trans (by simp);have y1:wr.frozen? ⟨w.heap.size,1,none⟩=false:=(hbel.frozen (by exact Nat.lt_succ_self _)).trans (by simp);clear htx hrt hbel;by_cases hlt:k<n
     · have hkl:k<l.length:=by have:=HN.out;omega
       obtain ⟨t,ht⟩:∃ t,l[k]? = some t:=⟨l[k],List.getElem?_eq_getElem hkl⟩;obtain ⟨b1,o1,rfl,hb1,p0,p1,p2⟩:=F1.out k t ht;have hd:l.drop k=t::l.drop (k+1):=by
         rw [List.drop_eq_getElem_cons hkl];congr 1;rw [List.getElem?_eq_getElem hkl] at ht;exact Option.some.inj ht
       obtain ⟨own,back,size⟩:=t;simp only at p0 p1 p2
       have q0:=(HBW.out.cell (p:=⟨b1,o1+k * 3,none⟩) hb1).trans p0;have q1:=(HBW.out.cell (p:=⟨b1,o1+k * 3+1,none⟩) hb1).trans p1;have q2:=(HBW.out.cell (p:=⟨b1,o1+k * 3+2,none⟩) hb1).trans p2;have hrt:=HRT.out;rw [hd] at hrt;obtain ⟨hw0,hw1⟩:=rightF_head hrt;have hle:=wrongN_le hw0;have HTX2:Hid (textL [] l=textL (stepT out.data.toList ⟨own,back,size⟩) (l.drop (k+1))):=by
         have h:textL [] l=textL (stepT out.data.toList ⟨own,back,size⟩) (l.drop (k+1)):=by rw [HTX.out,hd,textL_cons]
         exact h
       have HW1:=Lib.hid hw1;clear p0 p1 p2 ht hd hkl hrt hw1 HTX HRT x0 x1 y0 y1;rcases wrongN_ok hw0 with ⟨h1,h2,h3,h4⟩ | ⟨h1,h2,h3,h4,h5,h6,h7⟩
       · simp only at h1 h2 h3 h4
         subst h2 h3;have HN2:Hid (textL [] l=textL (out++own).data.toList (l.drop (k+1))):=by
           have h:textL [] l=textL (out++own).data.toList (l.drop (k+1)):=by rw [HTX2.out,app_data];rfl
           exact h
         have HNW:Hid ((rightF (l.drop (k+1)) (k+1) (out++own).size).1=0):=by
           have h:(rightF (l.drop (k+1)) (k+1) (out++own).size).1=0:=by rw [app_size];exact HW1.out
           exact h
         have HNZ:Hid ((out++own).size≤20000):=by
           have h:(out++own).size≤20000:=by rw [app_size];exact h4
           exact h
         clear hw0 h1 hle;go_wp2;go_roundw
         case rel=>exact ⟨k+1,out++own,by omega,by go_num,rfl,HN2.out,HNW.out,HNZ.out,HB.out.alloc (by omega) _⟩
         case measure=>simp [intOf];omega
       · simp only at h1 h2 h3 h4 h5 h6 h7
         obtain ⟨nn,rfl⟩:=Int.eq_ofNat_of_zero_le (show 0≤size by omega);obtain ⟨kb,rfl⟩:=Int.eq_ofNat_of_zero_le (show 0≤back by omega);have hout:out++own=out:=bs_ext (by rw [app_data,List.length_eq_zero_iff.1 (by rw [←size_data];exact h1:own.data.toList.length=0),List.append_nil]);have hol:out.data.toList.length=out.size:=(size_data out).symm;obtain ⟨r,hr⟩:∃ r,r=out.size-kb:=⟨_,rfl⟩;have e1:(out.size:Int)-(kb:Int)=(r:Int):=by omega
         have e2:(0:Int)≤(r:Int):=by omega
         have e3:(r:Int)≤(out.size:Int):=by omega
         have hpl:(out.data.toList.drop r).length=kb:=by rw [List.length_drop,hol];omega
         have HST:Hid (stepT out.data.toList ⟨own,kb,nn⟩=out.data.toList++cyc (out.data.toList.drop r) nn):=by
           have h:stepT out.data.toList ⟨own,kb,nn⟩=out.data.toList++cyc (out.data.toList.drop r) nn:=by
             rw [stepT_cyc _ _ _ _ (by omega) (by omega) h1,hol,hr]
           exact h
         have HP0:Hid ((out.extract r out.size).data.toList=cyc (out.data.toList.drop r) kb):=by
           have h:(out.extract r out.size).data.toList=cyc (out.data.toList.drop r) kb:=by
             rw [ext_data,List.take_of_length_le (by rw [hol];exact Nat.le_refl _),←hpl,cyc_self]
           exact h
         have HPS:Hid ((out.extract r out.size).size=kb):=by
           have h:(out.extract r out.size).size=kb:=by rw [ByteArray.size_extract];omega
           exact h
         have HPL:=Lib.hid hpl;have hkb:1≤kb:=by omega
         have hkb2:kb≤1024:=by omega
         have hnn:nn≤67:=by omega
         have hnp:0<nn:=by omega
         have hn4:(4:Int)≤(nn:Int):=h2;have hle2:out.size+nn≤20000:=by omega
         have HW2:Hid ((rightF (l.drop (k+1)) (k+1) (out.size+nn)).1=0):=by
           have h:(rightF (l.drop (k+1)) (k+1) (out.size+nn)).1=0:=by
             have e:out.size+nn=out.size+lenT ⟨own,kb,nn⟩:=by show _=out.size+(own.size+(nn:Int).toNat);omega
             rw [e];exact HW1.out
           exact h
         have HH1:=Lib.hid h1;have hos:own.size≤0:=by omega
         clear hw0 hle hpl hol hr h1 h2 h3 h4 h5 h6 h7 HW1;go_wp2;clear e1 e2 e3 q0 q1 q2 hout
         go_loop [8] (fun pt=>∃ (P:ByteArray) (q:Nat),pt=.string P∧P.data.toList=cyc (out.data.toList.drop r) (kb * q)∧P.size=kb * q∧1≤q∧P.size≤2000) (fun pt=>nn-(match pt with | .string P=>P.size | _=>0))
         case atStart=>exact ⟨out.extract r out.size,1,rfl,by rw [Nat.mul_one];exact HP0.out,by rw [Nat.mul_one];exact HPS.out,Nat.le_refl _,by rw [HPS.out];omega⟩
         case round =>
           obtain ⟨P,q,rfl,hpd,hps,hq,hpz⟩:=hrel;have HPD:=Lib.hid hpd;have HPZ:=Lib.hid hps;clear hpd;have hpp:1≤P.size:=by rw [hps];exact Nat.mul_pos (by omega) (by omega)
           clear hps;by_cases hlt3:P.size<nn
           · have HQ : Hid ((P ++ P).data.toList = cyc (out.data.toList.drop r) (kb * (q + q))) := by
               have h:(P++P).data.toList=cyc (out.data.toList.drop r) (kb * (q+q)):=by
                 have h2:=cyc_dbl (out.data.toList.drop r) q;rw [HPL.out] at h2;rw [app_data,HPD.out,Nat.mul_add,h2]
               exact h
             have HQS:Hid ((P++P).size=kb * (q+q)):=by
               have h:(P++P).size=kb * (q+q):=by rw [app_size,HPZ.out,Nat.mul_add]
               exact h
             have HQZ:Hid ((P++P).size≤2000):=by
               have h:(P++P).size≤2000:=by rw [app_size];omega
               exact h
             go_wp2
             go_round
             case rel=>exact ⟨P++P,q+q,rfl,HQ.out,HQS.out,by omega,HQZ.out⟩
             case measure=>simp;omega
           · have hnP:(nn:Int)≤(P.size:Int):=by omega
             have HX:Hid ((out++P.extract 0 nn).data.toList=stepT out.data.toList ⟨own,kb,nn⟩):=by
               have h:(out++P.extract 0 nn).data.toList=stepT out.data.toList ⟨own,kb,nn⟩:=by
                 rw [HST.out,app_data,ext_data,List.drop_zero,HPD.out,cyc_take _ _ _ (by rw [←HPZ.out];omega)]
               exact h
             have HXS:Hid ((out++P.extract 0 nn).size=out.size+nn):=by
               have h:(out++P.extract 0 nn).size=out.size+nn:=by rw [app_size,ByteArray.size_extract];omega
               exact h
             have HNW:Hid ((rightF (l.drop (k+1)) (k+1) (out++P.extract 0 nn).size).1=0):=by
               have h:(rightF (l.drop (k+1)) (k+1) (out++P.extract 0 nn).size).1=0:=by rw [HXS.out];exact HW2.out
               exact h
             have HNZ:Hid ((out++P.extract 0 nn).size≤20000):=by
               have h:(out++P.extract 0 nn).size≤20000:=by rw [HXS.out];exact hle2
               exact h
             have HNX:Hid (textL [] l=textL (out++P.extract 0 nn).data.toList (l.drop (k+1))):=by
               have h:textL [] l=textL (out++P.extract 0 nn).data.toList (l.drop (k+1)):=by rw [HX.out];exact HTX2.out
               exact h
             go_wp2;go_roundw
             case rel=>exact ⟨k+1,out++P.extract 0 nn,by omega,by go_num,rfl,HNX.out,HNW.out,HNZ.out,HB.out.alloc (by omega) _⟩
             case measure=>simp [intOf];omega
     · have HRN : Hid ((⟨(textF l).toArray⟩ : ByteArray) = out) := by
         have h:(⟨(textF l).toArray⟩:ByteArray)=out:=by
           apply bs_ext
           rw [bs_data,HT.out,HTX.out,List.drop_eq_nil_of_le (by have:=HN.out;omega)];rfl
         exact h
       have hlt0:w.heap.size<wr.heap.size:=by omega
       clear HTX HRT;go_wp2_with fail
       refine (good_any _).mono ?_;rintro r w2 ⟨rfl,hb2⟩;have d0:w2.cell? ⟨w.heap.size,0,none⟩=some (.int .i64 0):=(hb2.cell hlt0).trans x0;have d1:w2.cell? ⟨w.heap.size,1,none⟩=some (.int .i64 0):=(hb2.cell hlt0).trans x1;have g0:w2.frozen? ⟨w.heap.size,0,none⟩=false:=(hb2.frozen hlt0).trans y0;have g1:w2.frozen? ⟨w.heap.size,1,none⟩=false:=(hb2.frozen hlt0).trans y1;have HB2:Hid (Below w.heap.size w w2):=HBW.out.trans (hb2.mono (Nat.le_of_lt hlt0));clear hb2 x0 x1 y0 y1;go_wp2;refine bodyPost_ret (v:=.tuple #[.string out,.agg #[.int .i64 0,.int .i64 (-1)]]) (by simp [results,Tryz.results86,go_sem,d0,d1]) rfl ?_;rw [HRN.out,HR.out];exact ⟨rfl,(HB2.out.setCell (Nat.le_refl _) _).setCell (Nat.le_refl _) _⟩
 · have HT : Hid ((⟨(textF l).toArray⟩ : ByteArray) = ⟨#[]⟩) := by
     have h:(⟨(textF l).toArray⟩:ByteArray)=⟨#[]⟩:=by unfold textF;rw [if_neg (by rw [hr];exact he)]
     exact h
   have hbe:((e:Int) == 0)=false:=by simp;omega
   have HBE:=Lib.hid hbe;clear hv hl hz hr he hbe;go_enter Tryz.func86,Tryz.ntmps86
   go_wp2_with fail
   refine (rright_any _ l _ HVA.out HLL.out HZ.out).mono ?_;rintro r w0 ⟨rfl,hb0⟩;rw [HR.out];have HB0:=Lib.hid hb0;have hz0:=hb0.size;rw [World.size_alloc] at hz0;clear hb0;go_wp2_with fail
   refine (is_any e pl _).mono ?_;rintro r w1 ⟨rfl,hb1⟩;rw [HBE.out];have HB1:=Lib.hid hb1;have hB1:Below (w.heap.size+1) (w.alloc (.cells #[.int .i64 0,.int .i64 0] 29)) w1:=(HB0.out.mono (by simp)).alloc (by omega) _ |>.trans (hb1.mono (by simp;omega))
   have hl0:w0.heap.size<(w0.alloc (.cells #[.int .i64 e,.int .i64 pl] 29)).heap.size:=by simp
   have u0:w1.cell? ⟨w0.heap.size,0,none⟩=some (.int .i64 e):=(hb1.cell hl0).trans (by simp);have u1:w1.cell? ⟨w0.heap.size,1,none⟩=some (.int .i64 pl):=(hb1.cell hl0).trans (by simp);have x0:w1.cell? ⟨w.heap.size,0,none⟩=some (.int .i64 0):=(hB1.cell (by exact Nat.lt_succ_self _)).trans (by simp);have x1:w1.cell? ⟨w.heap.size,1,none⟩=some (.int .i64 0):=(hB1.cell (by exact Nat.lt_succ_self _)).trans (by simp);have y0:w1.frozen? ⟨w.heap.size,0,none⟩=false:=(hB1.frozen (by exact Nat.lt_succ_self _)).trans (by simp);have y1:w1.frozen? ⟨w.heap.size,1,none⟩=false:=(hB1.frozen (by exact Nat.lt_succ_self _)).trans (by simp);have HBW:Hid (Below w.heap.size w w1):=((Below.refl _ _).alloc (Nat.le_refl _) _).trans (hB1.mono (Nat.le_succ _));clear hb1 hB1;go_wp2;go_region
   go_wp2;refine bodyPost_ret (v:=.tuple #[.string ⟨#[]⟩,.agg #[.int .i64 e,.int .i64 pl]]) (by simp [results,Tryz.results86,go_sem,x0,x1]) rfl ?_;rw [HT.out,HR.out];exact ⟨rfl,by first | exact ((HBW.out.drew).setCell (Nat.le_refl _) _).setCell (Nat.le_refl _) _ | exact ((HBW.out.setCell (Nat.le_refl _) _).setCell (Nat.le_refl _) _).drew⟩
end Go.Proofs.YtgfinhehgfbdgaaGreatDoor
namespace Go.Proofs.YtgfinhehgfbdgaaGreatDoor
open Go.RowKit
def RReadIs (w:World) (s:List UInt8) (e:Ending) (w':World):Prop :=
 ∃ v,e=.returned (.tuple #[v,.agg #[.int .i64 ((readF s).1.1:Nat),.int .i64 (readF s).1.2]])∧ownsK w' w.heap.size v (readF s).2∧Below w.heap.size w w'
def TR (w wr:World) (lv bv:Value) (l:List Tok) (b:List Nat):Prop :=
 wr.heap[w.heap.size]? = some (.cells #[lv] 89 (0,0))∧wr.heap[w.heap.size+1]? = some (.cells #[.int .i64 0,.int .i64 (-1)] 29 (0,0)) ∧
   ownsK wr (w.heap.size+2) lv l∧ownsN wr (w.heap.size+2) bv b∧Below w.heap.size w wr∧w.heap.size+2≤wr.heap.size
theorem TR.below {w wr w':World} {lv bv:Value} {l:List Tok} {b:List Nat} (h:TR w wr lv bv l b) (hb:Below wr.heap.size wr w'):TR w w' lv bv l b:=by
 obtain ⟨h1,h2,h3,h4,h5,h6⟩:=h;exact ⟨(hb.block _ (by omega)).trans h1,(hb.block _ (by omega)).trans h2,h3.below hb,h4.below hb,h5.trans (hb.mono (by omega)),Nat.le_trans h6 hb.size⟩
theorem TR.alloc {w wr:World} {lv bv:Value} {l:List Tok} {b:List Nat} (h:TR w wr lv bv l b) (o:Obj):TR w (wr.alloc o) lv bv l b:=h.below ((Below.refl _ _).alloc (Nat.le_refl _) o)
theorem TR.cells {w wr:World} {lv bv:Value} {l:List Tok} {b:List Nat} (h:TR w wr lv bv l b) :
   wr.cell? ⟨w.heap.size,0,none⟩=some lv∧wr.frozen? ⟨w.heap.size,0,none⟩=false∧wr.cell? ⟨w.heap.size+1,0,none⟩=some (.int .i64 0)∧wr.cell? ⟨w.heap.size+1,1,none⟩=some (.int .i64 (-1)) ∧
     wr.frozen? ⟨w.heap.size+1,0,none⟩=false∧wr.frozen? ⟨w.heap.size+1,1,none⟩=false:=by
 obtain ⟨h1,h2,_⟩:=h;exact ⟨cell_of_row _ _ 0 _ _ (0,0) h1,Lib.frozen_of_heap h1 0,cell_of_row _ _ 0 _ _ (0,0) h2,cell_of_row _ _ 1 _ _ (0,0) h2,Lib.frozen_of_heap h2 0,Lib.frozen_of_heap h2 1⟩
theorem TR.begun {w wr w2:World} {lv bv bv2:Value} {o:Obj} {l:List Tok} {b:List Nat} {a:Nat} (h:TR w wr lv bv l b) (ho:ownsN w2 (w.heap.size+2) bv2 (b++[a])) (hg:(wr.alloc o).grownBy w2 bv.ownBlock):TR w w2 lv bv2 l (b++[a]):=by
 obtain ⟨h1,h2,h3,h4,h5,h6⟩:=h;have hne:∀ k,k<w.heap.size+2→some k≠bv.ownBlock:=fun k hk e=>by
   have:=(h4.lt k e.symm).1;omega
 refine ⟨?_,?_,?_,ho,?_,Nat.le_trans (by simp;omega) hg.size⟩
 · rw [hg.block _ (by simp;omega) (hne _ (by omega)),Below.heap_alloc _ _ _ (by omega)];exact h1
 · rw [hg.block _ (by simp;omega) (hne _ (by omega)),Below.heap_alloc _ _ _ (by omega)];exact h2
 · exact World.ownsRow.kept (h3.alloc o) hg (own_apart h3 h4 (show 163≠3 by decide))
 · exact (h5.alloc (by omega) _).grown hg (by simp;omega) (fun g hg=>by have:=(h4.lt g hg).1;omega)
def door (w:World):List Deferred :=
 [{ target:=.fn (Fn.func 88) #[],args:=#[.pointer (some ⟨w.heap.size+1,0,none⟩)] },
   { target:=.fn (Fn.func 141) #[.pointer (some ⟨w.heap.size+1,0,none⟩),.pointer (some ⟨w.heap.size,0,none⟩)],args:=#[] }]
set_option maxRecDepth 100000 in
set_option maxHeartbeats 1000000 in
theorem door_bad {w W:World} {lv bv:Value} {l:List Tok} {b:List Nat} {s:List UInt8} (e:Nat) (pl:Int) (h:TR w W lv bv l b) (he:e≠0) (hrd:readF s=((e,pl),[])) (tmps:Array Value)
   (t2:tmps[2]? = some (.pointer (some ⟨w.heap.size,0,none⟩))) (t3:tmps[3]? = some (.pointer (some ⟨w.heap.size+1,0,none⟩))) :
   Leaves Tryz.prog Tryz.f85 tmps (RReadIs w s) (door w) (.panicking [{ v:=.iface 190 (.agg #[.int .i64 (e:Int),.int .i64 pl]),recovered:=false }]) W:=by
 obtain ⟨o0,y0,c0,c1,z0,z1⟩:=h.cells;have hbel:=h.2.2.2.2.1;have hz:=h.2.2.2.2.2;have hbe:((e:Int) == 0)=false:=by simp;omega
 obtain ⟨W2,hW2⟩:∃ W2,(W.setCell ⟨w.heap.size+1,0,none⟩ (.int .i64 (e:Int))).setCell ⟨w.heap.size+1,1,none⟩ (.int .i64 pl)=W2:=⟨_,rfl⟩;have hz2:W2.heap.size=W.heap.size:=by rw [←hW2];simp
 have x0:W2.cell? ⟨w.heap.size+1,0,none⟩=some (.int .i64 (e:Int)):=by rw [←hW2];simp [go_sem,c0]
 have x1:W2.cell? ⟨w.heap.size+1,1,none⟩=some (.int .i64 pl):=by rw [←hW2];simp [go_sem,c1]
 have x2:W2.cell? ⟨w.heap.size,0,none⟩=some lv:=by rw [←hW2];simp [go_sem,o0]
 have x3:W2.frozen? ⟨w.heap.size,0,none⟩=false:=by rw [←hW2];simp [go_sem,y0]
 have hb2:Below w.heap.size w W2:=by rw [←hW2];exact (hbel.setCell (by simp) _).setCell (by simp) _
 have q0:=(World.cell?_alloc_lt W2 (.cells #[.int .i64 (e:Int),.int .i64 pl] 190) (⟨w.heap.size+1,0,none⟩:Addr) (by show w.heap.size+1<_;omega)).trans x0;have q1:=(World.cell?_alloc_lt W2 (.cells #[.int .i64 (e:Int),.int .i64 pl] 190) (⟨w.heap.size+1,1,none⟩:Addr) (by show w.heap.size+1<_;omega)).trans x1;have q2:=(World.cell?_alloc_lt W2 (.cells #[.int .i64 (e:Int),.int .i64 pl] 190) (⟨w.heap.size,0,none⟩:Addr) (by show w.heap.size<_;omega)).trans x2;have hal:Below W2.heap.size W2 (W2.alloc (.cells #[.int .i64 (e:Int),.int .i64 pl] 190)):=(Below.refl _ _).alloc (Nat.le_refl _) _;have q3:(W2.alloc (.cells #[.int .i64 (e:Int),.int .i64 pl] 190)).frozen? ⟨w.heap.size,0,none⟩=false:=(hal.frozen (by show w.heap.size<_;omega)).trans x3;unfold door;refine leaves_cons (f:=88) (args:=#[.pointer (some ⟨w.heap.size+1,0,none⟩)]) (by simp) (by simp [go_sem]) ?_;refine (caught_pan (w.heap.size+1) e pl 0 (-1) [] W (by omega) c0 c1 z0 z1).mono ?_;rintro r u' w2 ⟨rfl,rfl,rfl⟩;rw [hW2];refine leaves_cons (f:=141) (args:=#[.pointer (some ⟨w.heap.size+1,0,none⟩),.pointer (some ⟨w.heap.size,0,none⟩)]) (by simp [settle]) (by simp [go_sem]) ?_;refine (reset_bad (w.heap.size+1) w.heap.size e pl lv _ _ hbe q0 q1 (by simp;omega) q2 q3).mono ?_
 rintro r u' w2 ⟨rfl,rfl,w3,hb3,rfl⟩;have p0:(w3.setCell ⟨w.heap.size,0,none⟩ (.slice none 0 0)).cell? ⟨w.heap.size+1,0,none⟩=some (.int .i64 (e:Int)):=by
   rw [World.cell?_setCell_other _ _ _ _ (by simp)];exact (hb3.cell (by simp;omega)).trans q0
 have p1:(w3.setCell ⟨w.heap.size,0,none⟩ (.slice none 0 0)).cell? ⟨w.heap.size+1,1,none⟩=some (.int .i64 pl):=by
   rw [World.cell?_setCell_other _ _ _ _ (by simp)];exact (hb3.cell (by simp;omega)).trans q1
 have p2:(w3.setCell ⟨w.heap.size,0,none⟩ (.slice none 0 0)).cell? ⟨w.heap.size,0,none⟩=some (.slice none 0 0):=World.cell?_setCell_same _ _ _ ((hb3.cell (by simp;omega)).trans q2);have hb4:Below w.heap.size w (w3.setCell ⟨w.heap.size,0,none⟩ (.slice none 0 0)):=((hb2.trans (hal.mono (by omega))).trans (hb3.mono (by simp;omega))).setCell (by simp) _;refine ⟨.tuple #[.slice none 0 0,.agg #[.int .i64 (e:Int),.int .i64 pl]],by simp [results,Tryz.results85,go_sem,t2,t3,p0,p1,p2],.slice none 0 0,?_,?_,hb4⟩
 · rw [hrd]
 · rw [hrd];exact ownsK_nil _ _
set_option maxRecDepth 100000 in
set_option maxHeartbeats 1000000 in
theorem door_good {w W:World} {lv bv:Value} {l:List Tok} {b:List Nat} {s:List UInt8} (h:TR w W lv bv l b) (hrd:readF s=((0,-1),l)) (tmps:Array Value)
   (t2:tmps[2]? = some (.pointer (some ⟨w.heap.size,0,none⟩))) (t3:tmps[3]? = some (.pointer (some ⟨w.heap.size+1,0,none⟩))) :
   Leaves Tryz.prog Tryz.f85 tmps (RReadIs w s) (door w) .returning W:=by
 obtain ⟨o0,y0,c0,c1,z0,z1⟩:=h.cells;have hz:=h.2.2.2.2.2;unfold door;refine leaves_cons (f:=88) (args:=#[.pointer (some ⟨w.heap.size+1,0,none⟩)]) (by simp) (by simp [go_sem]) ?_;refine (caught_idle _ W).mono ?_;rintro r u' w2 ⟨rfl,rfl,rfl⟩;refine leaves_cons (f:=141) (args:=#[.pointer (some ⟨w.heap.size+1,0,none⟩),.pointer (some ⟨w.heap.size,0,none⟩)]) (by simp [settle]) (by simp [go_sem]) ?_;refine (reset_good (w.heap.size+1) w.heap.size (-1) _ _ c0 c1).mono ?_;rintro r u' w3 ⟨rfl,rfl,hb3⟩;have h3:=h.below hb3;obtain ⟨p2,_,p0,p1,_,_⟩:=h3.cells;obtain ⟨_,_,k3,_,k5,_⟩:=h3;refine ⟨.tuple #[lv,.agg #[.int .i64 0,.int .i64 (-1)]],by simp [results,Tryz.results85,go_sem,t2,t3,p0,p1,p2],lv,?_,?_,k5⟩
 · rw [hrd];rfl
 · rw [hrd];exact k3.mono (by omega)
end Go.Proofs.YtgfinhehgfbdgaaGreatDoor
