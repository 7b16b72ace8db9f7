import Derived.Test.YtdhognaoejiglaaGreatDoorKb34
namespace Go.Proofs.YtdhognaoejiglaaGreatDoor
open Lib (hid)
set_option maxRecDepth 100000
set_option maxHeartbeats 8000000
section
open Go.RowKit
theorem Aj {w:World} {a:Option Addr} {n k c:Nat} {l:List Wr} (h:az w (.slice a n c) l) (hn:n=l.length) (hk:k≤n) (h0:0<k):az w (.slice a k c) (l.take k):=by
 rcases h with ⟨a',c',e,rfl⟩ | ⟨b,off,c',e,h1,h2,h3⟩
 ·simp at hn;omega
 ·obtain ⟨e1,e2,e3⟩:=Value.slice.inj e;subst e1 e3;have hl:(l.take k).length=k:=by rw [List.length_take];omega
  refine .inr ⟨b,off,c,by rw [hl],by omega,h2,fun j u hj=>h3 j u ?_⟩;rw [jH,List.getElem?_take] at hj;split at hj
  ·exact hj
  ·cases hj
theorem Ai {w:World} {B n c:Nat} {a:Option Addr} {l:List Wr} (h:ak w B (.slice a n c) l):n≤c:=by
 rcases h.2 with ⟨e,_⟩ | ⟨g,cap,cur,e,_,_,hc,_⟩
 ·obtain ⟨_,e2,_⟩:=Value.slice.inj e;omega
 ·obtain ⟨_,e2,e3⟩:=Value.slice.inj e;omega
structure NC (w W:World) (P:Nat) (F:Nat→Prop) (s:LogS) (vh vw:Value):Prop where
 rowr:W.heap[w.heap.size]? = some (.cells #[.slice none 0 0,.slice none 0 0,.slice none 0 0] 47 (0,0))
 log:bk W P F s vh vw
 bel:Below w.heap.size w W
 sz:w.heap.size+1≤W.heap.size
section
variable {w W:World} {P:Nat} {F:Nat→Prop} {s:LogS} {vh vw:Value}
theorem NC.call {W':World} (h:NC w W P F s vh vw) (hb:Below W.heap.size W W'):NC w W' P F s vh vw :=
 ⟨(hb.block _ (by have:=h.sz;omega)).trans h.rowr,h.log.below hb,h.bel.trans (hb.mono h.bel.size),Nat.le_trans h.sz hb.size⟩
theorem NC.cr (h:NC w W P F s vh vw):(W.cell? ⟨w.heap.size,0,none⟩=some (.slice none 0 0)∧W.cell? ⟨w.heap.size,1,none⟩=some (.slice none 0 0)∧W.cell? ⟨w.heap.size,2,none⟩=some (.slice none 0 0))∧W.frozen? ⟨w.heap.size,0,none⟩=false∧W.frozen? ⟨w.heap.size,1,none⟩=false∧W.frozen? ⟨w.heap.size,2,none⟩=false :=
 ⟨⟨cell_of_row _ _ 0 _ _ _ h.rowr,cell_of_row _ _ 1 _ _ _ h.rowr,cell_of_row _ _ 2 _ _ _ h.rowr⟩,Lib.frozen_of_heap h.rowr 0,Lib.frozen_of_heap h.rowr 1,Lib.frozen_of_heap h.rowr 2⟩
theorem NC.out (h:NC w W P F s vh vw) (a b c:Value):(((W.setCell ⟨w.heap.size,0,none⟩ a).setCell ⟨w.heap.size,1,none⟩ b).setCell ⟨w.heap.size,2,none⟩ c).heap[w.heap.size]? = some (.cells #[a,b,c] 47 (0,0))∧Below w.heap.size w (((W.setCell ⟨w.heap.size,0,none⟩ a).setCell ⟨w.heap.size,1,none⟩ b).setCell ⟨w.heap.size,2,none⟩ c) ∧
 But (fun k=>k=w.heap.size) W (((W.setCell ⟨w.heap.size,0,none⟩ a).setCell ⟨w.heap.size,1,none⟩ b).setCell ⟨w.heap.size,2,none⟩ c) :=
 ⟨heap_setCell_same _ _ 2 _ _ c (heap_setCell_same _ _ 1 _ _ b (heap_setCell_same _ _ 0 _ _ a h.rowr)),((h.bel.setCell (Nat.le_refl _) _).setCell (Nat.le_refl _) _).setCell (Nat.le_refl _) _,
  (((But.refl (fun k=>k=w.heap.size) W).setCell (.inl (show w.heap.size=w.heap.size from rfl)) _).setCell (.inl (show w.heap.size=w.heap.size from rfl)) _).setCell (.inl (show w.heap.size=w.heap.size from rfl)) _⟩
end
def wz (w:World) (s:LogS) (f:List Ent) (e:Ending) (w':World):Prop :=
 (bo s f≠0∧e=.returned (.tuple #[.agg #[.slice none 0 0,.slice none 0 0,.slice none 0 0],.iface 68 (.int .i64 (bo s f:Nat))])∧Below w.heap.size w w') ∨
 (bo s f=0∧∃ uf uh uw,e=.returned (.tuple #[.agg #[uf,uh,uw],.nilIface])∧ag w' w.heap.size uf f∧ag w' w.heap.size uh (aT s f)∧ak w' w.heap.size uw (aD s f)∧Below w.heap.size w w')
theorem DS {s:LogS} {f:List Ent} (h:(aq f).1≠0):bo s f=(aq f).1:=by unfold bo;rw [if_pos h]
theorem DT {s:LogS} {f:List Ent} (h:(aq f).1=0) (h2:covB s.hv f=false):bo s f=13:=by unfold bo;rw [if_neg (by rw [h];simp),if_pos h2]
theorem DR {s:LogS} {f:List Ent} (h:(aq f).1=0) (h2:covB s.hv f=true):bo s f=0:=by unfold bo;rw [if_neg (by rw [h];simp),if_neg (by rw [h2];simp)]
theorem DP {s:LogS} {f:List Ent} (h:¬ 60<(aO s f).length):aD s f=aO s f∧aT s f=s.hv:=by
 unfold aD aT;rw [if_pos (by omega),if_pos (by omega)];exact ⟨rfl,rfl⟩
theorem DQ {s:LogS} {f:List Ent} (h:60<(aO s f).length):aD s f=(aO s f).take 60∧aT s f=bz f ((aO s f).take 60):=by
 unfold aD aT bz;rw [if_neg (by omega),if_neg (by omega)];exact ⟨rfl,rfl⟩
theorem sw (P:Nat) (F:Nat→Prop) (s:LogS) (v:Value) (f:List Ent) (w:World) (h:aQ w P F s) (ok:aM s) (hf:ae w v f) (hfl:f.length≤9223372036854775807) (hg:errT w) :
 Calls Tryz.prog 22 #[.pointer (some ⟨P,0,none⟩),v] w (wz w s f):=by
 obtain ⟨vh,vw,h⟩:=h;have HOK:=hid ok;obtain ⟨af,cf,rfl,_⟩:=hf.form;have HF:=hid hf;have HFL:=hid hfl;have HG:=hid hg;obtain ⟨nf,hnf⟩:∃ n,n=f.length:=⟨_,rfl⟩;rw [←hnf] at HF ⊢;obtain ⟨ah,ch,rfl,_⟩:=h.ents.is.form;have HHL:Hid (s.hv.length≤16):=hid ok.hv.1;obtain ⟨nh,hnh⟩:∃ n,n=s.hv.length:=⟨_,rfl⟩;rw [←hnh] at h;obtain ⟨eb,pb,hb⟩:∃ e pl,aq f=(e,pl):=⟨_,_,rfl⟩;have HBF:=hid hb;have HA0:Hid (NC w (w.alloc (.cells #[.slice none 0 0,.slice none 0 0,.slice none 0 0] 47)) P F s (.slice ah nh ch) vw):=hid ⟨heap_alloc_new _ _,h.below ((Below.refl _ _).alloc (Nat.le_refl _) _),(Below.refl _ _).alloc (Nat.le_refl _) _,by simp⟩;clear ok hf hfl hg hnf hnh hb h;go_enter Tryz.func22,Tryz.ntmps22
 go_wp2_with fail
 obtain ⟨W,hW⟩:∃ W,W=w.alloc (.cells #[.slice none 0 0,.slice none 0 0,.slice none 0 0] 47):=⟨_,rfl⟩;rw [←hW] at HA0 ⊢;clear hW;refine (cC _ f W (HF.out.below HA0.out.bel) HFL.out).mono ?_;rintro r w1 ⟨err,rfl,hat,hb1⟩;rw [HBF.out] at hat;have HA1:=hid (HA0.out.call hb1);have HAT:=hid hat;clear hb1 hat HA0;by_cases he:eb=0
 ·subst he;obtain rfl:=HAT.out.nil rfl;have HV0:Hid ((aq f).1=0):=hid (by rw [HBF.out]);have HRF:Hid (aB f):=hid ((bO f).1 HV0.out);have p1:=HA1.out.log.c1;obtain ⟨cc,hcc⟩:∃ cc,covB s.hv f=cc:=⟨_,rfl⟩;have HCC:=hid hcc;clear hcc;cases cc with
  | false =>
   have HE:Hid (bo s f=13):=hid (DT HV0.out HCC.out);go_wp2_with (go_at_call 26;refine (dn _ _ s.hv f false w1 HA1.out.log.ents.is (HF.out.below HA1.out.bel) (by have:=HHL.out;omega) HFL.out HCC.out).mono ?_;rintro r w2 ⟨rfl,hb2⟩;have HA2:=hid (HA1.out.call hb2);obtain ⟨⟨r0,r1,r2⟩,g0,g1,g2⟩:=HA2.out.cr;clear hb2)
   obtain ⟨hR,hbR,_⟩:=HA2.out.out (.slice none 0 0) (.slice none 0 0) (.slice none 0 0);obtain ⟨V,hV⟩:∃ V,V=((w2.setCell ⟨w.heap.size,0,none⟩ (.slice none 0 0)).setCell ⟨w.heap.size,1,none⟩ (.slice none 0 0)).setCell ⟨w.heap.size,2,none⟩ (.slice none 0 0):=⟨_,rfl⟩;rw [←hV] at hR hbR ⊢;clear hV;have q0:=cell_of_row _ _ 0 _ _ _ hR;have q1:=cell_of_row _ _ 1 _ _ _ hR;have q2:=cell_of_row _ _ 2 _ _ _ hR;refine bodyPost_ret (v:=.tuple #[.agg #[.slice none 0 0,.slice none 0 0,.slice none 0 0],.iface 68 (.int .i64 13)]) (by simp [results,Tryz.results22,go_sem,q0,q1,q2]) rfl ?_;exact .inl (by rw [HE.out];exact ⟨by simp,rfl,hbR⟩)
  | true =>
   have HE:Hid (bo s f=0):=hid (DR HV0.out HCC.out);obtain ⟨m,hm⟩:∃ m,m=(aO s f).length:=⟨_,rfl⟩;have HM:=hid hm;have HSZ:Hid (∀ x∈aD s f,x.key.size≤140737488351232∧x.value.size≤140737488351232):=hid (fun x hx=>HOK.out.size (jp.1 ((DU s f).subset hx)).1);have hm3:m≤300:=by rw [hm];exact Nat.le_trans (List.length_filter_le _ _) HOK.out.len
   have HCV:Hid (∀ r,ofF f r≤ofF s.hv r):=hid ((fu HOK.out.hv HRF.out).1 HCC.out);have HIN:Hid (InV s.hv ((aO s f).take 60)):=hid (A0 HOK.out (fun x hx=>(jp.1 (List.mem_of_mem_take hx)).1));clear hm;by_cases h6:60<m
   ·have b6:decide ((60:Int)<(m:Int))=true:=by simp;omega
    have HMANY:=hid (DQ (s:=s) (f:=f) (by rw [←HM.out];exact h6));go_wp2_with (first
     | (go_at_call 26;refine (dn _ _ s.hv f true w1 HA1.out.log.ents.is (HF.out.below HA1.out.bel) (by have:=HHL.out;omega) HFL.out HCC.out).mono ?_;rintro r w2 ⟨rfl,hb2⟩;have HA2:=hid (HA1.out.call hb2);clear hb2)
     | (go_at_call 17;refine (kX P s F w2 ⟨_,_,HA2.out.log⟩ HOK.out).mono ?_;rintro r w3 ⟨u3,rfl,ho3,hb3⟩;have HA3:=hid (HA2.out.call hb3);have HO3:=hid (ho3.mono HA2.out.sz);obtain ⟨a3,c3,rfl,_⟩:=HO3.out.is.form;obtain ⟨n3,hn3⟩:∃ n3,n3=s.hv.length:=⟨_,rfl⟩;rw [←hn3] at HO3 ⊢;clear hn3;clear ho3 hb3)
     | (go_at_call 44;refine (sk P F s _ f w3 ⟨_,_,HA3.out.log⟩ HOK.out (HF.out.below HA3.out.bel) HFL.out).mono ?_;rintro r w4 ⟨u4,rfl,ho4,hb4⟩;obtain ⟨a4,c4,rfl,_⟩:=ho4.is.form;rw [←HM.out] at ho4 ⊢;have HA4:=hid (HA3.out.call hb4);have HO4:=hid (ho4.mono HA3.out.sz);have HO3B:Hid (ag w4 (w.heap.size+1) (.slice a3 n3 c3) s.hv):=hid (HO3.out.below hb4);have hc4:m≤c4:=Ai HO4.out;have hc60:60≤c4:=(by omega);have HWT:Hid (az w4 (.slice a4 60 c4) ((aO s f).take 60)):=hid (Aj HO4.out.is HM.out (by omega) (by omega));clear ho4 hb4)
     | (go_at_call 45;refine (Bi _ _ s.hv f ((aO s f).take 60) w4 (HF.out.below HA4.out.bel) HWT.out (by rw [List.length_take];omega) HOK.out.hv HRF.out HCV.out HIN.out (HG.out.below HA4.out.bel)).mono ?_;rintro r w7 ⟨u7,rfl,ho7,hb7⟩;obtain ⟨a7,c7,rfl,_⟩:=ho7.is.form;obtain ⟨n7,hn7⟩:∃ n7,n7=(bz f ((aO s f).take 60)).length:=⟨_,rfl⟩;rw [←hn7] at ho7 ⊢;clear hn7;have HA7:=hid (HA4.out.call hb7);have HOHX:Hid (ag w7 (w.heap.size+1) (.slice a7 n7 c7) (aT s f)):=hid (by rw [HMANY.out.2];exact ho7.mono HA4.out.sz);have HOWX:Hid (az w7 (.slice a4 60 c4) (aD s f)):=hid (by rw [HMANY.out.1];exact HWT.out.below hb7);clear ho7 hb7)
     | (go_at_call 40;refine (ki _ f w7 (HF.out.below HA7.out.bel) (by have:=HRF.out.1;omega)).mono ?_;rintro r w5 ⟨u5,rfl,ho5,hb5⟩;have HA5:=hid (HA7.out.call hb5);have HO5:=hid (ho5.mono HA7.out.sz);obtain ⟨a5,c5,rfl,_⟩:=HO5.out.is.form;obtain ⟨n5,hn5⟩:∃ n5,n5=f.length:=⟨_,rfl⟩;rw [←hn5] at HO5 ⊢;clear hn5;have HOH5:Hid (ag w5 (w.heap.size+1) (.slice a7 n7 c7) (aT s f)):=hid (HOHX.out.below hb5);have HOW5:Hid (az w5 (.slice a4 60 c4) (aD s f)):=hid (HOWX.out.below hb5);clear ho5 hb5)
     | (go_at_call 39;refine (my _ (aD s f) w5 HOW5.out (by have:=tH s f;omega) HSZ.out).mono ?_;rintro r w6 ⟨u6,rfl,ho6,hb6,_⟩;have HA6:=hid (HA5.out.call hb6);have HO6:=hid (ho6.mono HA5.out.sz);obtain ⟨a6,c6,rfl,_⟩:=HO6.out.is.form;obtain ⟨n6,hn6⟩:∃ n6,n6=(aD s f).length:=⟨_,rfl⟩;rw [←hn6] at HO6 ⊢;clear hn6;have HOH6:Hid (ag w6 (w.heap.size+1) (.slice a7 n7 c7) (aT s f)):=hid (HOH5.out.below hb6);have HO56:Hid (ag w6 (w.heap.size+1) (.slice a5 n5 c5) f):=hid (HO5.out.below hb6);obtain ⟨⟨r0,r1,r2⟩,g0,g1,g2⟩:=HA6.out.cr;clear ho6 hb6)
     | fail)
    obtain ⟨hR,hbR,hBU⟩:=HA6.out.out (.slice a5 n5 c5) (.slice a7 n7 c7) (.slice a6 n6 c6);obtain ⟨V,hV⟩:∃ V,V=((w6.setCell ⟨w.heap.size,0,none⟩ (.slice a5 n5 c5)).setCell ⟨w.heap.size,1,none⟩ (.slice a7 n7 c7)).setCell ⟨w.heap.size,2,none⟩ (.slice a6 n6 c6):=⟨_,rfl⟩;rw [←hV] at hR hbR hBU ⊢;clear hV;have q0:=cell_of_row _ _ 0 _ _ _ hR;have q1:=cell_of_row _ _ 1 _ _ _ hR;have q2:=cell_of_row _ _ 2 _ _ _ hR;refine bodyPost_ret (v:=.tuple #[.agg #[.slice a5 n5 c5,(.slice a7 n7 c7),.slice a6 n6 c6],.nilIface]) (by simp [results,Tryz.results22,go_sem,q0,q1,q2]) rfl ?_;exact .inr ⟨HE.out,_,_,_,rfl,ag.mono (cT HO56.out hBU (fun k e e2=>by have:=(HO56.out.lt k e).1;omega)) (by omega),ag.mono (cT HOH6.out hBU (fun k e e2=>by have:=(HOH6.out.lt k e).1;omega)) (by omega),ak.mono (cT HO6.out hBU (fun k e e2=>by have:=(HO6.out.lt k e).1;omega)) (by omega),hbR⟩
   ·have b6:decide ((60:Int)<(m:Int))=false:=by simp;omega
    have HFEW:=hid (DP (s:=s) (f:=f) (by rw [←HM.out];exact h6));go_wp2_with (first
     | (go_at_call 26;refine (dn _ _ s.hv f true w1 HA1.out.log.ents.is (HF.out.below HA1.out.bel) (by have:=HHL.out;omega) HFL.out HCC.out).mono ?_;rintro r w2 ⟨rfl,hb2⟩;have HA2:=hid (HA1.out.call hb2);clear hb2)
     | (go_at_call 17;refine (kX P s F w2 ⟨_,_,HA2.out.log⟩ HOK.out).mono ?_;rintro r w3 ⟨u3,rfl,ho3,hb3⟩;have HA3:=hid (HA2.out.call hb3);have HO3:=hid (ho3.mono HA2.out.sz);obtain ⟨a3,c3,rfl,_⟩:=HO3.out.is.form;obtain ⟨n3,hn3⟩:∃ n3,n3=s.hv.length:=⟨_,rfl⟩;rw [←hn3] at HO3 ⊢;clear hn3;clear ho3 hb3)
     | (go_at_call 44;refine (sk P F s _ f w3 ⟨_,_,HA3.out.log⟩ HOK.out (HF.out.below HA3.out.bel) HFL.out).mono ?_;rintro r w4 ⟨u4,rfl,ho4,hb4⟩;obtain ⟨a4,c4,rfl,_⟩:=ho4.is.form;rw [←HM.out] at ho4 ⊢;have HA4:=hid (HA3.out.call hb4);have HO4:=hid (ho4.mono HA3.out.sz);have HO3B:Hid (ag w4 (w.heap.size+1) (.slice a3 n3 c3) s.hv):=hid (HO3.out.below hb4);have HOHX:Hid (ag w4 (w.heap.size+1) (.slice a3 n3 c3) (aT s f)):=hid (by rw [HFEW.out.2];exact HO3B.out);have HOWX:Hid (az w4 (.slice a4 m c4) (aD s f)):=hid (by rw [HFEW.out.1];exact HO4.out.is);clear ho4 hb4)
     | (go_at_call 40;refine (ki _ f w4 (HF.out.below HA4.out.bel) (by have:=HRF.out.1;omega)).mono ?_;rintro r w5 ⟨u5,rfl,ho5,hb5⟩;have HA5:=hid (HA4.out.call hb5);have HO5:=hid (ho5.mono HA4.out.sz);obtain ⟨a5,c5,rfl,_⟩:=HO5.out.is.form;obtain ⟨n5,hn5⟩:∃ n5,n5=f.length:=⟨_,rfl⟩;rw [←hn5] at HO5 ⊢;clear hn5;have HOH5:Hid (ag w5 (w.heap.size+1) (.slice a3 n3 c3) (aT s f)):=hid (HOHX.out.below hb5);have HOW5:Hid (az w5 (.slice a4 m c4) (aD s f)):=hid (HOWX.out.below hb5);clear ho5 hb5)
     | (go_at_call 39;refine (my _ (aD s f) w5 HOW5.out (by have:=tH s f;omega) HSZ.out).mono ?_;rintro r w6 ⟨u6,rfl,ho6,hb6,_⟩;have HA6:=hid (HA5.out.call hb6);have HO6:=hid (ho6.mono HA5.out.sz);obtain ⟨a6,c6,rfl,_⟩:=HO6.out.is.form;obtain ⟨n6,hn6⟩:∃ n6,n6=(aD s f).length:=⟨_,rfl⟩;rw [←hn6] at HO6 ⊢;clear hn6;have HOH6:Hid (ag w6 (w.heap.size+1) (.slice a3 n3 c3) (aT s f)):=hid (HOH5.out.below hb6);have HO56:Hid (ag w6 (w.heap.size+1) (.slice a5 n5 c5) f):=hid (HO5.out.below hb6);obtain ⟨⟨r0,r1,r2⟩,g0,g1,g2⟩:=HA6.out.cr;clear ho6 hb6)
     | fail)
    obtain ⟨hR,hbR,hBU⟩:=HA6.out.out (.slice a5 n5 c5) (.slice a3 n3 c3) (.slice a6 n6 c6);obtain ⟨V,hV⟩:∃ V,V=((w6.setCell ⟨w.heap.size,0,none⟩ (.slice a5 n5 c5)).setCell ⟨w.heap.size,1,none⟩ (.slice a3 n3 c3)).setCell ⟨w.heap.size,2,none⟩ (.slice a6 n6 c6):=⟨_,rfl⟩;rw [←hV] at hR hbR hBU ⊢;clear hV;have q0:=cell_of_row _ _ 0 _ _ _ hR;have q1:=cell_of_row _ _ 1 _ _ _ hR;have q2:=cell_of_row _ _ 2 _ _ _ hR;refine bodyPost_ret (v:=.tuple #[.agg #[.slice a5 n5 c5,(.slice a3 n3 c3),.slice a6 n6 c6],.nilIface]) (by simp [results,Tryz.results22,go_sem,q0,q1,q2]) rfl ?_;exact .inr ⟨HE.out,_,_,_,rfl,ag.mono (cT HO56.out hBU (fun k e e2=>by have:=(HO56.out.lt k e).1;omega)) (by omega),ag.mono (cT HOH6.out hBU (fun k e e2=>by have:=(HOH6.out.lt k e).1;omega)) (by omega),ak.mono (cT HO6.out hBU (fun k e e2=>by have:=(HO6.out.lt k e).1;omega)) (by omega),hbR⟩
 ·have HE:Hid (bo s f=eb):=hid (by rw [DS (by rw [HBF.out];exact he),HBF.out]);have HIS:=hid (HAT.out.isErr he);obtain ⟨t,v,rfl⟩:=HAT.out.iface he;have H4:=hid he;clear he;go_wp2_with (go_at_call 35;refine (dM _ eb w1 (HG.out.below HA1.out.bel) HIS.out).mono ?_;rintro r w2 ⟨rfl,hb2⟩;have HA2:=hid (HA1.out.call hb2);obtain ⟨⟨r0,r1,r2⟩,g0,g1,g2⟩:=HA2.out.cr;clear hb2)
  obtain ⟨hR,hbR,_⟩:=HA2.out.out (.slice none 0 0) (.slice none 0 0) (.slice none 0 0);obtain ⟨V,hV⟩:∃ V,V=((w2.setCell ⟨w.heap.size,0,none⟩ (.slice none 0 0)).setCell ⟨w.heap.size,1,none⟩ (.slice none 0 0)).setCell ⟨w.heap.size,2,none⟩ (.slice none 0 0):=⟨_,rfl⟩;rw [←hV] at hR hbR ⊢;clear hV;have q0:=cell_of_row _ _ 0 _ _ _ hR;have q1:=cell_of_row _ _ 1 _ _ _ hR;have q2:=cell_of_row _ _ 2 _ _ _ hR;refine bodyPost_ret (v:=.tuple #[.agg #[.slice none 0 0,.slice none 0 0,.slice none 0 0],.iface 68 (.int .i64 (eb:Nat))]) (by simp [results,Tryz.results22,go_sem,q0,q1,q2]) rfl ?_;exact .inl (by rw [HE.out];exact ⟨H4.out,rfl,hbR⟩)
theorem aM.wr {s:LogS} (ok:aM s):∀ x∈s.ws,wrF x=0:=fun x hx=>(ok.mem x hx).1
theorem AO (P:Nat) (s:LogS) (F:Nat→Prop) (w:World) (h:aQ w P F s) (ok:aM s) :
 Calls Tryz.prog 34 #[.pointer (some ⟨P,0,none⟩)] w fun e w'=>∃ u,e=.returned u∧fN w' u (cg s.ws)∧Below w.heap.size w w'∧∀ k,u.ownBlock=some k→w.heap.size≤k:=by
 obtain ⟨vh,vw,h⟩:=h;have p2:=h.c2;have HI:=hid h.ows.is;have HL:Hid (s.ws.length≤100000):=hid (by have:=ok.len;omega);have HS:=hid ok.wr;clear h ok;go_enter Tryz.func34,Tryz.ntmps34
 go_wp2_with (go_at_call 32;refine (BL vw s.ws _ HI.out HS.out HL.out).mono ?_;rintro r w2 ⟨u,rfl,hu,hb,hfr⟩;have HU:=hid hu;have HB:=hid hb;have HFR:=hid hfr;clear hu hb hfr)
 go_ret;exact ⟨_,rfl,HU.out,HB.out,HFR.out⟩
end
section
open Go.RowKit
theorem C6 (l:List Wr) (j:Nat) (x:Wr) (h:l[j]? = some x):bD (l.take (j+1))=bD (l.take j)++oldW x:=by
 rw [List.take_add_one,h];simp [bD]
theorem sS {x:Wr} (h:wE x=0):(oldW x).length≤400:=by
 have hf:=cL h;unfold oldW bT;simp only [List.length_append,List.length_cons,List.length_nil]
 have h1:=aI (n:=x.time.toNat) (by omega);have h2:=aI (n:=x.rep.toNat) (by omega);have h3:=aI (n:=x.key.data.toList.length) (by rw [←aj];omega);have h4:=hf.2.2.2.2.2.2.2.2.1;have h5:=aj x.key;omega
theorem nY (l:List Wr) (h:∀ x∈l,wE x=0):(bD l).length≤400 * l.length:=by
 induction l with
 | nil=>simp [bD]
 | cons x l ih =>
  rw [nX,List.length_append,List.length_cons];have h1:=sS (h x List.mem_cons_self);have h2:=ih (fun y hy=>h y (List.mem_cons_of_mem _ hy));omega
theorem lk (l:List Ent) (h:aB l):(bR l).length≤330:=by
 unfold bR;rw [List.length_append];have h1:=aI (n:=l.length) (by have:=h.1;omega);have h2:=qN l (fun e he=>by have:=bJ h.2 e he;omega);have:=h.1;omega
theorem tu {l:List Ent} (h:aB l):∀ e∈l,0≤e.rep∧e.rep≤200∧0≤e.time∧e.time≤1099511627776:=fun e he=>by have:=bJ h.2 e he;omega
theorem zn {f h:List Ent} {l:List Wr} {e:Nat} {pl:Int} (h0:batF f h l=(e,pl)) (he:e≠0):fZ f h l=([],e,pl):=by unfold fZ;rw [h0,if_pos he]
theorem qY {f h:List Ent} {l:List Wr} (h0:(batF f h l).1=0):fZ f h l=(bi (80::84::1::oldL f h l),0,-1):=by unfold fZ;rw [if_neg (by rw [h0];simp)]
theorem Dt {b B:Nat} {w w':World} {a0 a1 a2:Value} (h:NonB b w w') (hr:w.heap[B]? = some (.cells #[a0,a1,a2] 47 (0,0))) (hb:B≠b):w'.cell? ⟨B,0,none⟩=some a0∧w'.cell? ⟨B,1,none⟩=some a1∧w'.cell? ⟨B,2,none⟩=some a2:=by
 have h2:=(h B (Array.getElem?_eq_some_iff.1 hr).1 hb (fun cs fz e=>by rw [hr] at e;injection e with e;injection e with _ e;exact absurd e (by decide))).trans hr;exact ⟨cell_of_row _ _ 0 _ _ (0,0) h2,cell_of_row _ _ 1 _ _ (0,0) h2,cell_of_row _ _ 2 _ _ (0,0) h2⟩
theorem BN (vf vh vw:Value) (f h:List Ent) (l:List Wr) (T:ByteArray) (e:Nat) (pl:Int) (w:World) (hx:aC w vf vh vw f h l) (hg:errT w) (hb:fZ f h l=(T.data.toList,e,pl)) :
 Calls Tryz.prog 62 #[.agg #[vf,vh,vw]] w fun r w'=>∃ err,r=.returned (.tuple #[.string T,err])∧ax w' err (e,pl)∧Below w.heap.size w w':=by
 have HX0:=hid hx;obtain ⟨hf,hh,hv,_⟩:=hx;obtain ⟨af,cf,rfl,_⟩:=hf.form;obtain ⟨ah,ch,rfl,_⟩:=hh.form;obtain ⟨aw,cw,rfl,hwf⟩:=hv.form;obtain ⟨W,hW⟩:∃ W,w.alloc (.cells #[.slice af f.length cf,.slice ah h.length ch,.slice aw l.length cw] 47)=W:=⟨_,rfl⟩;have HW:Hid (Below w.heap.size w W):=hid (by rw [←hW];exact (Below.refl _ _).alloc (Nat.le_refl _) _);have HZ:Hid (w.heap.size<W.heap.size):=hid (by rw [←hW];simp);have HBAT:Hid (W.heap[w.heap.size]? = some (.cells #[.slice af f.length cf,.slice ah h.length ch,.slice aw l.length cw] 47 (0,0))):=hid (by rw [←hW];exact heap_alloc_new w _);have HX:=hid (HX0.out.below HW.out);have HG:=hid (hg.below HW.out);obtain ⟨be,bp,hbf⟩:∃ be bp,batF f h l=(be,bp):=⟨_,_,rfl⟩;have HBF:=hid hbf;have HWF:=hid hwf;by_cases hbe:be=0
 ·subst hbe;have hr:aY f h l:=by unfold aY;rw [hbf]
  rw [qY (by rw [hbf])] at hb;injection hb with hT hb
  injection hb with h1 h2
  subst h1 h2;obtain ⟨⟨g1,g2,_⟩,g4,g5,_⟩:=dX.1 hr;have HWE:Hid (∀ x∈l,wE x=0):=hid (fun x hx=>(g5 x hx).1);obtain ⟨P,hP⟩:=da (bR f);obtain ⟨Q,hQ⟩:=da (bR h);obtain ⟨N,hN⟩:=da (putL l.length);have hPz:P.size≤330:=by rw [aj,←hP];exact lk f g1
  have hQz:Q.size≤330:=by rw [aj,←hQ];exact lk h g2
  have hNz:N.size≤10:=by rw [aj,←hN];exact aI (by omega)
  have HPC:=hid (fun w' hi=>sZ (.slice af f.length cf) f P w' hi g1.1 (tu g1) hP);have HQC:=hid (fun w' hi=>sZ (.slice ah h.length ch) h Q w' hi g2.1 (tu g2) hQ);have HNC:=hid (fun w'=>gY l.length N w' (by omega) hN);obtain ⟨I,hI⟩:=da (oldL f h l);have HI:Hid (P.data.toList++Q.data.toList++N.data.toList++bD l=I.data.toList):=hid (by rw [←hI,←hP,←hQ,←hN];rfl);have hIz:I.size≤1000000:=by
   have h3:=nY l HWE.out;rw [aj,←HI.out];simp only [List.length_append]
   rw [←aj,←aj,←aj];omega
  have HFR:=hid (fun w'=>sO 1 I T w' (by decide) hIz (by rw [←hI];exact hT));obtain ⟨n,hn⟩:∃ n,n=l.length:=⟨_,rfl⟩;obtain ⟨nf,hnf⟩:∃ n,n=f.length:=⟨_,rfl⟩;obtain ⟨nh,hnh⟩:∃ n,n=h.length:=⟨_,rfl⟩;rw [←hn] at HX HBAT HNC g4;rw [←hnf] at HX HBAT HPC;rw [←hnh] at HX HBAT HQC;have HN:=hid hn;have a1:¬ (9223372036854775807<P.size+Q.size):=by omega
  have a2:¬ (9223372036854775807<(P++Q).size+N.size):=by rw [ByteArray.size_append];omega
  have a2':¬ (9223372036854775807<P.size+Q.size+N.size):=by omega
  have HAZ:Hid ((P++Q++N).size≤1000):=hid (by rw [ByteArray.size_append,ByteArray.size_append];omega);have HAD:Hid ((P++Q++N).data.toList=P.data.toList++Q.data.toList++N.data.toList):=hid (by rw [iy,iy]);have HHDL:Hid ((P.data.toList++Q.data.toList++N.data.toList).length≤1000):=hid (by rw [←HAD.out,←aj];exact HAZ.out);have b0:=cell_of_row _ _ 0 _ _ (0,0) HBAT.out;have b1:=cell_of_row _ _ 1 _ _ (0,0) HBAT.out;have b2:=cell_of_row _ _ 2 _ _ (0,0) HBAT.out;rw [←hn,←hnf,←hnh];rw [←hn,←hnf,←hnh] at hW;clear hf hh hv hwf hbf hr hT g1 g2 g5 hP hQ hN hI hIz hPz hQz hNz hg hn hnf hnh;go_enter Tryz.func62,Tryz.ntmps62
  go_wp2_with fail
  refine (iC _ _ _ f h l 0 bp W HX.out HG.out HBF.out).mono ?_;rintro r w1 ⟨err,rfl,hat,hb1⟩;obtain rfl:=hat.nil rfl;have HB1:Hid (Below w.heap.size w w1):=hid (HW.out.trans (hb1.mono HW.out.size));have HX1:=hid (HX.out.below hb1);have HT1:=hid ((hb1.block _ HZ.out).trans HBAT.out);have HZ1:Hid (w.heap.size<w1.heap.size):=hid (Nat.lt_of_lt_of_le HZ.out hb1.size);have HBN:=hid (mF w1 w.heap.size HB1.out.size);have HA1:Hid (Below w1.heap.size w1 (w1.alloc (.cells #[.pointer none,.slice none 0 0] 145))):=hid ((Below.refl _ _).alloc (Nat.le_refl _) _);clear hat hb1 b0 b1 b2 hW;obtain ⟨W2,hW2⟩:∃ W2,w1.alloc (.cells #[.pointer none,.slice none 0 0] 145)=W2:=⟨_,rfl⟩;rw [hW2] at HBN HA1;have HX2:=hid (HX1.out.below HA1.out);have HT2:=hid ((HA1.out.block _ HZ1.out).trans HT1.out);have HB2:Hid (Below w.heap.size w W2):=hid (HB1.out.trans (HA1.out.mono HB1.out.size));have HZ2:Hid (w.heap.size<W2.heap.size):=hid (Nat.lt_of_lt_of_le HZ1.out HA1.out.size);have HTF:Hid (∀ w',Below W2.heap.size W2 w'→(w'.cell? ⟨w.heap.size,0,none⟩=some (.slice af nf cf)∧w'.cell? ⟨w.heap.size,1,none⟩=some (.slice ah nh ch)∧w'.cell? ⟨w.heap.size,2,none⟩=some (.slice aw n cw))):=hid (fun w' hb=>by
   have h2:=(hb.block _ HZ2.out).trans HT2.out;exact ⟨cell_of_row _ _ 0 _ _ (0,0) h2,cell_of_row _ _ 1 _ _ (0,0) h2,cell_of_row _ _ 2 _ _ (0,0) h2⟩)
  have HFE:Hid (∀ w',Below W2.heap.size W2 w'→ae w' (.slice af nf cf) f):=hid (fun w' hb=>(HX2.out.below hb).1);have HHE:Hid (∀ w',Below W2.heap.size W2 w'→ae w' (.slice ah nh ch) h):=hid (fun w' hb=>(HX2.out.below hb).2.1);have HD2:Hid (Below W2.heap.size W2 W2.drew):=hid (Below.refl _ _).drew;obtain ⟨Bb,hBb⟩:∃ Bb,w1.heap.size=Bb:=⟨_,rfl⟩;rw [hBb] at HBN;have HBW:=hid (fun w' hb=>qk w.heap.size Bb [] (P++Q++N) w' (HBN.out.below hb) (by have:=HAZ.out;simp only [List.length_nil];omega) (Nat.le_trans HB2.out.size hb.size));have HNE:Hid (w.heap.size≠Bb):=hid (by have:=HZ1.out;omega);have b0:=HTF.out W2 (Below.refl _ _);go_wp2;go_region_held3 (fun w'=>w'.cell? ⟨w.heap.size,0,none⟩=some (.slice af nf cf)∧w'.cell? ⟨w.heap.size,1,none⟩=some (.slice ah nh ch)∧w'.cell? ⟨w.heap.size,2,none⟩=some (.slice aw n cw)) (first | exact b0 | exact k3 | exact k4 | exact k5 | exact k6 | fail) (first
   | (go_at_call 89;((with_reducible refine (HPC.out W2.drew (HFE.out _ HD2.out)).mono ?_);rintro r w3 ⟨rfl,hb3⟩;have HB3:Hid (Below W2.heap.size W2 w3):=hid (ec hb3);have k3:=HTF.out w3 HB3.out;clear hb3))
   | (go_at_call 89;((with_reducible refine (HQC.out w3 (HHE.out _ HB3.out)).mono ?_);rintro r w4 ⟨rfl,hb4⟩;have HB4:Hid (Below W2.heap.size W2 w4):=hid (HB3.out.trans (hb4.mono HB3.out.size));have k4:=HTF.out w4 HB4.out;clear hb4))
   | (go_at_call 90;((with_reducible refine (HNC.out w4).mono ?_);rintro r w5 ⟨rfl,hb5⟩;have HB5:Hid (Below W2.heap.size W2 w5):=hid (HB4.out.trans (hb5.mono HB4.out.size));have k5:=HTF.out w5 HB5.out;clear hb5))
   | (go_at_call 88;((with_reducible refine (HBW.out w5 HB5.out).mono ?_);rintro r w6 ⟨rfl,hbl6,hb6,hn6⟩;have HBL6:=hid hbl6;have HB6:Hid (Below w.heap.size w w6):=hid ((HB2.out.trans (HB5.out.mono HB2.out.size)).trans hb6);have k6:=Dt hn6 ((HB5.out.block _ HZ2.out).trans HT2.out) HNE.out;clear hbl6 hb6 hn6))
   | fail)
  obtain ⟨c0,c1,c2⟩:=k6;have HBL:Hid (aX w6 w.heap.size Bb (P.data.toList++Q.data.toList++N.data.toList++bD (l.take 0))):=hid (by
   have h:=HBL6.out;rw [List.nil_append,HAD.out] at h;rw [List.take_zero,show bD []=[] from rfl,List.append_nil];exact h)
  clear b0 k3 k4 k5 HBL6;go_wp2
  go_loopw [31] (fun iv wr=>∃ j:Nat,j≤n∧iv=.int .i64 j∧aX wr w.heap.size Bb (P.data.toList++Q.data.toList++N.data.toList++bD (l.take j))∧Below w.heap.size w wr) (fun iv _=>n-(intOf iv).toNat)
  case atStart=>exact ⟨0,Nat.zero_le _,rfl,HBL.out,HB6.out⟩
  case round =>
   obtain ⟨j,hj,rfl,hbl,hb⟩:=hrel;have HBJ:=hid hbl;have HB:=hid hb;clear hbl hb c0 c1 c2;by_cases hlt:j<n
   ·obtain ⟨x, hx⟩ : ∃ x, l[j]? = some x := ⟨l[j]'(by have := HN.out; omega), List.getElem?_eq_getElem _⟩;have hwx:=HWE.out x (List.mem_of_getElem? hx);have hsn:=C6 l j x hx;have hxl:=sS hwx;have hpre:(bD (l.take j)).length≤24000:=by
     have h3:=nY (l.take j) (fun y hy=>HWE.out y (List.mem_of_mem_take hy));rw [List.length_take] at h3;omega
    obtain ⟨bx,ox,rfl,hbx,p0,p1,p2,p3,p4,p5⟩:=HWF.out j x hx;have hfx:=cL hwx;obtain ⟨tx,rx,kx,keyx,vx,nx⟩:=x;obtain ⟨L,hL⟩:=da (oldW ⟨tx,rx,kx,keyx,vx,nx⟩);have hLz:L.size≤400:=by rw [aj,←hL];exact hxl
    simp only at p0 p1 p2 p3 p4 p5 hfx
    obtain ⟨tn,rfl⟩:=Int.eq_ofNat_of_zero_le (show 0≤tx by omega);obtain ⟨rn,rfl⟩:=Int.eq_ofNat_of_zero_le (show 0≤rx by omega);obtain ⟨kn,rfl⟩:=Int.eq_ofNat_of_zero_le (show 0≤kx by omega);have HLC:=hid (fun w'=>Ca tn rn kn keyx vx nx L w' hwx hL);have HNX:Hid (P.data.toList++Q.data.toList++N.data.toList++bD (l.take (j+1))=P.data.toList++Q.data.toList++N.data.toList++bD (l.take j)++L.data.toList):=hid (by rw [hsn,hL];simp only [List.append_assoc]);have HLEN:Hid ((P.data.toList++Q.data.toList++N.data.toList++bD (l.take j)).length+L.size≤140737488355328):=hid (by rw [List.length_append];have:=HHDL.out;omega);have q0:=(HB.out.cell (p:=⟨bx,ox+j * 6,none⟩) hbx).trans p0;have q1:=(HB.out.cell (p:=⟨bx,ox+j * 6+1,none⟩) hbx).trans p1;have q2:=(HB.out.cell (p:=⟨bx,ox+j * 6+2,none⟩) hbx).trans p2;have q3:=(HB.out.cell (p:=⟨bx,ox+j * 6+3,none⟩) hbx).trans p3;have q4:=(HB.out.cell (p:=⟨bx,ox+j * 6+4,none⟩) hbx).trans p4;have q5:=(HB.out.cell (p:=⟨bx,ox+j * 6+5,none⟩) hbx).trans p5;have hj0:(0:Int)≤(j:Int):=by omega
    have hj1:(j:Int)<(n:Int):=by omega
    clear p0 p1 p2 p3 p4 p5 hx hwx hsn hxl hpre hfx hL hLz;go_wp2_with fail
    refine (HLC.out _).mono ?_;rintro r w8 ⟨rfl,hb8⟩;have HJ8:=hid ((HBJ.out.alloc (.cells #[.int .i64 (tn:Int),.int .i64 (rn:Int),.int .i64 (kn:Int),.string keyx,.string vx,.int .i64 nx] 38)).below hb8);have HB8:Hid (Below w.heap.size w w8):=hid ((HB.out.alloc HB.out.size _).trans (hb8.mono (by have:=HB.out.size;simp;omega)));clear hb8 q0 q1 q2 q3 q4 q5;go_wp2_with fail
    refine (qj w.heap.size Bb _ L w8 HJ8.out HLEN.out HB8.out.size).mono ?_;rintro r w9 ⟨rfl,hbl9,hb9⟩;have HJ9:Hid (aX w9 w.heap.size Bb (P.data.toList++Q.data.toList++N.data.toList++bD (l.take (j+1)))):=hid (by rw [HNX.out];exact hbl9);have HB9:=hid (HB8.out.trans hb9);clear hbl9 hb9;go_wp2;go_roundw
    case rel=>exact ⟨j+1,by omega,by go_num,HJ9.out,HB9.out⟩
    case measure=>simp [intOf];omega
   ·obtain rfl:j=n:=by omega
    have HJI:Hid (aX wr w.heap.size Bb I.data.toList):=hid (by
     have h:=HBJ.out;rw [HN.out,List.take_length,HI.out] at h;exact h)
    go_wp2_with fail
    refine (mG w.heap.size Bb _ wr HJI.out HB.out.size).mono ?_;rintro r w8 ⟨rfl,hb8⟩;rw [bW];have HB8:=hid (HB.out.trans hb8);clear hb8;go_wp2_with fail
    refine (HFR.out w8).mono ?_;rintro r w9 ⟨rfl,hb9⟩;have HB9:Hid (Below w.heap.size w w9):=hid (HB8.out.trans (hb9.mono HB8.out.size));clear hb9;go_wp2;go_ret2;exact ⟨_,rfl,.inl (.inl ⟨rfl,rfl⟩),HB9.out⟩
 ·rw [zn hbf hbe] at hb;injection hb with hT hb
  injection hb with h1 h2
  subst h1 h2;have hTe:T=⟨#[]⟩:=by rw [←bW T,←hT]
  subst hTe;have b0:=cell_of_row _ _ 0 _ _ (0,0) HBAT.out;have b1:=cell_of_row _ _ 1 _ _ (0,0) HBAT.out;have b2:=cell_of_row _ _ 2 _ _ (0,0) HBAT.out;obtain ⟨n,hn⟩:∃ n,n=l.length:=⟨_,rfl⟩;obtain ⟨nf,hnf⟩:∃ n,n=f.length:=⟨_,rfl⟩;obtain ⟨nh,hnh⟩:∃ n,n=h.length:=⟨_,rfl⟩;rw [←hn,←hnf,←hnh] at HX hW b0 b1 b2 ⊢;clear hf hh hv hwf hbf hT hg HWF HBAT HX0;clear hn hnf hnh;go_enter Tryz.func62,Tryz.ntmps62
  go_wp2_with fail
  refine (iC _ _ _ f h l be bp W HX.out HG.out HBF.out).mono ?_;rintro r w1 ⟨err,rfl,hat,hb1⟩;have HAT:=hid hat;obtain ⟨t,u,rfl⟩:=hat.iface hbe;have HB1:Hid (Below w.heap.size w w1):=hid (HW.out.trans (hb1.mono HW.out.size));clear hat hb1 b0 b1 b2;go_wp2;go_ret2;exact ⟨_,rfl,HAT.out,HB1.out⟩
theorem tF {f h:List Ent} {l:List Wr} {s:List UInt8} {e:Nat} {pl:Int} (h0:aJ f h l=(s,e,pl)) (he:e≠0):gn f h l=([],e,pl):=by unfold gn;rw [h0,if_pos he]
theorem tG {f h:List Ent} {l:List Wr} {s:List UInt8} {pl:Int} (h0:aJ f h l=(s,0,pl)):gn f h l=(bi (80::84::2::s),0,-1):=by unfold gn;rw [h0,if_neg (by simp)]
theorem t8 (vf vh vw:Value) (f h:List Ent) (l:List Wr) (T:ByteArray) (e:Nat) (pl:Int) (w:World) (hx:aC w vf vh vw f h l) (hg:errT w) (hb:gn f h l=(T.data.toList,e,pl)) :
 Calls Tryz.prog 63 #[.agg #[vf,vh,vw]] w fun r w'=>∃ err,r=.returned (.tuple #[.string T,err])∧ax w' err (e,pl)∧Below w.heap.size w w':=by
 have HX:=hid hx;have HG:=hid hg;obtain ⟨hf,hh,hv,_⟩:=hx;obtain ⟨af,cf,rfl,_⟩:=hf.form;obtain ⟨ah,ch,rfl,_⟩:=hh.form;obtain ⟨aw,cw,rfl,_⟩:=hv.form;obtain ⟨S,x,q,hbf⟩:∃ (S:ByteArray) (x:Nat) (q:Int),aJ f h l=(S.data.toList,x,q):=⟨⟨(aJ f h l).1.toArray⟩,(aJ f h l).2.1,(aJ f h l).2.2,by simp⟩;have HBF:=hid hbf;obtain ⟨d0,d1,d2⟩:=eV w (.slice af f.length cf) (.slice ah h.length ch) (.slice aw l.length cw) 47;have HW:Hid (Below w.heap.size w (w.alloc (.cells #[.slice af f.length cf,.slice ah h.length ch,.slice aw l.length cw] 47))):=hid ((Below.refl _ _).alloc (Nat.le_refl _) _);generalize f.length=nf at HX HW d0 d1 d2 ⊢;generalize h.length=nh at HX HW d0 d1 d2 ⊢;generalize l.length=n at HX HW d0 d1 d2 ⊢;clear hf hh hv hg;by_cases hx0:x=0
 ·subst hx0;rw [tG hbf] at hb;injection hb with hT hb
  injection hb with h1 h2
  subst h1 h2;have hsz:S.size≤1000000:=by have:=ql hbf;rw [←aj] at this;omega
  have HFR:=hid (fun w'=>sO 2 S T w' (by decide) hsz hT);clear hbf hT hsz;go_enter Tryz.func63,Tryz.ntmps63
  go_wp2_with fail
  refine (jZ _ _ _ f h l _ (HX.out.below HW.out) (HG.out.below HW.out)).mono ?_;rintro r w1 ⟨err,rfl,hat,hb1⟩;rw [HBF.out] at hat ⊢;obtain rfl:=hat.nil rfl;rw [bW];have HB1:Hid (Below w.heap.size w w1):=hid (HW.out.trans (hb1.mono HW.out.size));clear hb1 hat d0 d1 d2;go_wp2_with fail
  refine (HFR.out w1).mono ?_;rintro r w2 ⟨rfl,hb2⟩;have HB2:Hid (Below w.heap.size w w2):=hid (HB1.out.trans (hb2.mono HB1.out.size));clear hb2;go_wp2;go_ret2;exact ⟨_,rfl,.inl (.inl ⟨rfl,rfl⟩),HB2.out⟩
 ·rw [tF hbf hx0] at hb;injection hb with hT hb
  injection hb with h1 h2
  subst h1 h2;have hTe:T=⟨#[]⟩:=by rw [←bW T,←hT]
  subst hTe;clear hbf hT;go_enter Tryz.func63,Tryz.ntmps63
  go_wp2_with fail
  refine (jZ _ _ _ f h l _ (HX.out.below HW.out) (HG.out.below HW.out)).mono ?_;rintro r w1 ⟨err,rfl,hat,hb1⟩;rw [HBF.out] at hat ⊢;have HAT:=hid hat;obtain ⟨t,u,rfl⟩:=hat.iface hx0;have HB1:Hid (Below w.heap.size w w1):=hid (HW.out.trans (hb1.mono HW.out.size));clear hb1 hat d0 d1 d2;go_wp2;go_ret2;exact ⟨_,rfl,HAT.out,HB1.out⟩
end
