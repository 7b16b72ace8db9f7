import Derived.Test.YtddbpnplbcjpgaaGreatDoorLp18
import Derived.Laws.NewBlocks
import Derived.Laws.CopyOwn
import Derived.Maps.AppendAt
import Derived.Lib.AppendZeros
namespace Go.Proofs.YtddbpnplbcjpgaaGreatDoor
open Go.RowKit
def arrA (f:Nat→Int):Array Value:=((List.range 201).map fun i=>Value.int .i64 (f i)).toArray
theorem arrA_size (f:Nat→Int):(arrA f).size=201:=by simp [arrA]
theorem arrA_at (f:Nat→Int) (i:Nat) (h:i < 201):(arrA f)[i]? = some (.int .i64 (f i)):=by
 unfold arrA
 simp [h]
def updT (f:Nat→Int) (r:Nat) (x:Int):Nat→Int:=fun i=>if i=r then x else f i
theorem arrA_set (f:Nat→Int) (r:Nat) (x:Int) (h:r < 201):(arrA f).setIfInBounds r (.int .i64 x)=arrA (updT f r x):=by
 apply Array.ext_getElem?
 intro i
 rw [Array.getElem?_setIfInBounds,arrA_size]
 by_cases hi:i < 201
 · by_cases e:r=i
   · subst e;rw [if_pos rfl,if_pos h,arrA_at _ r hi];unfold updT;rw [if_pos rfl]
   · rw [if_neg e,arrA_at _ i hi,arrA_at _ i hi];unfold updT;rw [if_neg (by omega)]
 · rw [if_neg (by omega),Array.getElem?_eq_none (by rw [arrA_size];omega),Array.getElem?_eq_none (by rw [arrA_size];omega)]
theorem arr_info:(Tryz.prog.info? 130).map (·.size)=some 201:=by kernel_rfl
theorem arr_infoA (f:Nat→Int):(Tryz.prog.info? 130).map (·.size)=some (arrA f).size:=by rw [arrA_size,arr_info]
def arr0:Array Value:=Array.replicate 201 (.int .i64 0)
theorem arr0_is:arr0=arrA fun _=>0:=by
 apply Array.ext_getElem?
 intro i
 unfold arr0
 rw [Array.getElem?_replicate]
 by_cases hi:i < 201
 · rw [if_pos hi,arrA_at _ i hi]
 · rw [if_neg hi,Array.getElem?_eq_none (by rw [arrA_size];omega)]
theorem take_snocE {l:List Ent} {k:Nat} {t:Ent} (h:l[k]? = some t):l.take (k + 1)=l.take k ++ [t]:=by
 obtain ⟨hk,ht⟩:=List.getElem?_eq_some_iff.1 h
 rw [List.take_succ_eq_append_getElem hk,ht]
def foldT (f:Nat→Int) (l:List Ent):Nat→Int:=l.foldl (fun f e=>updT f e.rep.toNat (max (f e.rep.toNat) e.time)) f
theorem foldT_snoc (f:Nat→Int) (l:List Ent) (e:Ent):foldT f (l ++ [e])=updT (foldT f l) e.rep.toNat (max (foldT f l e.rep.toNat) e.time):=by
 unfold foldT;rw [List.foldl_append];rfl
theorem foldT_is (l:List Ent):∀ (f:Nat→Int) (last:Int) (r:Nat),okV last l→(∀ r,0≤f r)→foldT f l r=max (f r) (ofF l r):=by
 induction l with
 | nil=>intro f last r _ hf;show f r=max (f r) 0;have:=hf r;omega
 | cons e t ih =>
   intro f last r h hf
   have hm:=okV_mem h e List.mem_cons_self
   show foldT (updT f e.rep.toNat (max (f e.rep.toNat) e.time)) t r=_
   rw [ih _ e.rep r h.2 (fun r=>by unfold updT;split <;> first | (have:=hf e.rep.toNat;omega) | exact hf r)]
   unfold updT
   by_cases hr:r=e.rep.toNat
   · subst hr
     have e1:((e.rep.toNat:Nat):Int)=e.rep:=by omega
     rw [if_pos rfl,e1,ofF_at rfl,ofF_low h.2 (Int.le_refl _)];omega
   · rw [if_neg hr,ofF_on (by omega)]
def bothT (a b:List Ent):Nat→Int:=foldT (foldT (fun _=>0) a) b
theorem bothT_is {a b:List Ent} {x y:Int} (ha:okV x a) (hb:okV y b) (r:Nat):bothT a b r=jF a b r:=by
 unfold bothT jF
 have h1:∀ r,foldT (fun _=>0) a r=max 0 (ofF a r):=fun r=>foldT_is a _ x r ha (fun _=>Int.le_refl _)
 rw [foldT_is b _ y r hb (fun r=>by rw [h1];omega),h1]
 have:=ofF_bd ha r
 omega
theorem tab_both {a b:List Ent} {x y:Int} (ha:okV x a) (hb:okV y b) (n:Nat):tab (bothT a b) n=tab (jF a b) n:=tab_congr fun r _=>bothT_is ha hb r
def TJ (F:Nat→Int) (w wr:World):Prop:=wr.heap[w.heap.size]? = some (.cells (arrA F) 130 (0,0))∧Below w.heap.size w wr
theorem TJ.start (w:World):TJ (fun _=>0) w (w.alloc (.cells (arrA fun _=>0) 130)):=⟨heap_alloc_new _ _,(Below.refl _ _).alloc (Nat.le_refl _) _⟩
theorem TJ.lt {F:Nat→Int} {w wr:World} (h:TJ F w wr):w.heap.size < wr.heap.size:=(Array.getElem?_eq_some_iff.1 h.1).1
theorem TJ.below {F:Nat→Int} {w wr w':World} (h:TJ F w wr) (hb:Below wr.heap.size wr w'):TJ F w w' :=
 ⟨(hb.block _ h.lt).trans h.1,h.2.trans (hb.mono (Nat.le_of_lt h.lt))⟩
theorem TJ.alloc {F:Nat→Int} {w wr:World} (h:TJ F w wr) (o:Obj):TJ F w (wr.alloc o):=h.below ((Below.refl _ _).alloc (Nat.le_refl _) o)
theorem TJ.drew {F:Nat→Int} {w wr:World} (h:TJ F w wr):TJ F w wr.drew:=⟨by rw [heap_drew];exact h.1,h.2.drew⟩
theorem TJ.set {F:Nat→Int} {w wr:World} (h:TJ F w wr) (r:Nat) (hr:r < 201) (x:Int):TJ (updT F r x) w (wr.setCell ⟨w.heap.size,r,none⟩ (.int .i64 x)) :=
 ⟨by rw [heap_setCell_same _ _ _ _ _ _ h.1,arrA_set F r x hr],h.2.setCell (Nat.le_refl _) _⟩
theorem TJ.cells {F:Nat→Int} {w wr:World} (h:TJ F w wr) (r:Nat) (hr:r < 201):wr.cell? ⟨w.heap.size,r,none⟩=some (.int .i64 (F r))∧wr.frozen? ⟨w.heap.size,r,none⟩=false :=
 ⟨by rw [cell_of_row _ _ _ _ _ _ h.1,arrA_at _ _ hr],frozen_of_row _ _ _ _ _ h.1⟩
end Go.Proofs.YtddbpnplbcjpgaaGreatDoor
namespace Go.Proofs.YtddbpnplbcjpgaaGreatDoor
open Go.RowKit
def JoinIs (w:World) (a b:List Ent) (e:Ending) (w':World):Prop :=
 ∃ v,e=.returned (.tuple #[v,noV (joinR a b).1])∧ownsE w' w.heap.size v (joinR a b).2∧Below w.heap.size w w'
theorem zero201:Tryz.zeroCells130=arrA fun _=>0:=by rw [←arr0_is];kernel_rfl
theorem zero201_w (w:World):w.alloc (.cells Tryz.zeroCells130 130)=w.alloc (.cells (arrA fun _=>0) 130):=by rw [zero201]
theorem idx_0 (x y:Value) (w:World):(Instr.index 131 (.agg #[x,y]) (.int .i64 0)).run Tryz.prog w=.ok x w:=by kernel_rfl
theorem idx_1 (x y:Value) (w:World):(Instr.index 131 (.agg #[x,y]) (.int .i64 1)).run Tryz.prog w=.ok y w:=by kernel_rfl
set_option maxRecDepth 100000 in
theorem idx_arr (G:Nat→Int) (k:Nat) (x:Int) (w:World) (h:k < 201) (hx:G k=x):(Instr.index 130 (.agg (arrA G)) (.int .i64 (k:Int))).run Tryz.prog w=.ok (.int .i64 x) w:=by
 have h2:=arrA_at G k h
 rw [hx] at h2
 simp [Instr.index,run_underlying Tryz.underlying130,asIntOf,h2,go_sem]
 intro hc;omega
def JL (a b:List Ent) (w:World) (k:Nat) (wr:World):Prop :=
 (k=0∧TJ (fun _=>0) w wr)∨(k=1∧rightV a∧TJ (foldT (fun _=>0) a) w wr)∨(k=2∧rightV a∧rightV b∧TJ (bothT a b) w wr)
theorem joinR_errs {a b:List Ent} {e:Nat} (h:joinR a b=(e,[])) (w w':World) (he:e≠0) (hb:Below w.heap.size w w'):JoinIs w a b (.returned (.tuple #[.slice none 0 0,.iface 40 (.int .i64 (e:Nat))])) w':=by
 refine ⟨.slice none 0 0,?_,?_,hb⟩
 · rw [h];simp only;rw [noV_e he]
 · rw [h];exact ownsE_nil _ _
theorem joinR_good {a b:List Ent} {l:List Ent} (h:joinR a b=(0,l)) (w w':World) (v:Value) (ho:ownsE w' w.heap.size v l) (hb:Below w.heap.size w w'):JoinIs w a b (.returned (.tuple #[v,.nilIface])) w':=by
 refine ⟨v,?_,?_,hb⟩
 · rw [h];rfl
 · rw [h];exact ho
set_option maxRecDepth 100000 in
set_option maxHeartbeats 4000000 in
theorem vjoin_any (va vb:Value) (a b:List Ent) (w:World) (ha:IsEnts w va a) (hb:IsEnts w vb b) (hla:a.length≤9223372036854775807) (hlb:b.length≤9223372036854775807) (hg:errT w) :
   Calls Tryz.prog 37 #[va,vb] w (JoinIs w a b):=by
 have HVA:=Lib.hid ha
 have HVB:=Lib.hid hb
 have HLA:=Lib.hid hla
 have HLB:=Lib.hid hlb
 have HG:=Lib.hid hg
 obtain ⟨aa,ca,rfl,fa⟩:=ha.form
 obtain ⟨ab,cb,rfl,fb⟩:=hb.form
 have FA:=Lib.hid fa
 have FB:=Lib.hid fb
 obtain ⟨na,hna⟩:∃ n,n=a.length:=⟨_,rfl⟩
 obtain ⟨nb,hnb⟩:∃ n,n=b.length:=⟨_,rfl⟩
 have HNA:=Lib.hid hna
 have HNB:=Lib.hid hnb
 rw [←hna] at HVA ⊢
 rw [←hnb] at HVB ⊢
 clear ha hb hla hlb hg fa fb hna hnb
 have i0:=idx_0
 have i1:=idx_1
 go_enter Tryz.func37,Tryz.ntmps37
 go_wp2
 rw [zero201_w]
 go_loopw [18] (fun i wr=>∃ k:Nat,k≤2∧i=.int .i64 k∧JL a b w k wr) (fun i _=>2 - (intOf i).toNat)
 case atStart=>exact ⟨0,by omega,rfl,.inl ⟨rfl,TJ.start w⟩⟩
 case round =>
   obtain ⟨k,hk,rfl,hj⟩:=hrel
   rcases hj with ⟨rfl,hT⟩ | ⟨rfl,hra,hT⟩ | ⟨rfl,hra,hrb,hT⟩
   · have HT:=Lib.hid hT
     have HB:=Lib.hid hT.2
     have hzr:=hT.lt
     clear hT
     by_cases h0:(vrightF a).1=0
     · have H0:=Lib.hid h0
       have HRA:=Lib.hid ((vright_ok a).1 h0)
       clear h0
       go_wp2_with fail
       refine (vbare_any _ a _ (HVA.out.below HB.out) HLA.out (HG.out.below HB.out)).mono ?_
       rintro r w1 ⟨rfl,hb1⟩
       rw [H0.out,noV_0]
       have HT1:=Lib.hid (HT.out.below hb1)
       clear hb1
       go_wp2
       go_loopw [28] (fun i wr=>∃ k:Nat,k≤na∧i=.int .i64 k∧TJ (foldT (fun _=>0) (a.take k)) w wr) (fun i _=>na - (intOf i).toNat)
       case atStart=>exact ⟨0,by omega,rfl,HT1.out⟩
       case round =>
         obtain ⟨k,hk,rfl,hT⟩:=hrel
         by_cases hlt:k < na
         · obtain ⟨t, ht⟩ : ∃ t, a[k]? = some t := ⟨a[k]'(by have := HNA.out; omega), List.getElem?_eq_getElem _⟩
           obtain ⟨b1,o1,rfl,hb1,p0,p1⟩:=FA.out k t ht
           have hm:=okV_mem HRA.out.2 t (List.mem_of_getElem? ht)
           have hsn:=take_snocE ht
           obtain ⟨rep,time⟩:=t
           simp only at p0 p1 hm
           obtain ⟨r,rfl⟩:=Int.eq_ofNat_of_zero_le hm.1
           have hr:r < 201:=by omega
           have hr':(r:Int) < 201:=by omega
           have hr0:(0:Int)≤(r:Int):=by omega
           have q0:=(hT.2.cell (p:=⟨b1,o1 + k * 2,none⟩) hb1).trans p0
           have q1:=(hT.2.cell (p:=⟨b1,o1 + k * 2 + 1,none⟩) hb1).trans p1
           obtain ⟨c0,y0⟩:=(hT.alloc (.cells #[.int .i64 (r:Int),.int .i64 time] 62)).cells r hr
           have hzt:=hT.lt
           have h16:na≤16:=by rw [HNA.out];exact HRA.out.1
           have HT0:=Lib.hid hT
           have HT2:=Lib.hid (hT.alloc (.cells #[.int .i64 (r:Int),.int .i64 time] 62))
           obtain ⟨x,hx⟩:∃ x,foldT (fun _=>0) (a.take k) r=x:=⟨_,rfl⟩
           obtain ⟨m,hmx⟩:∃ m,max x time=m:=⟨_,rfl⟩
           have hmx2:(if x < time then time else x)=m:=by rw [←hmx];split <;> omega
           rw [hx] at c0
           have HST:Hid (foldT (fun _=>0) (a.take (k + 1))=updT (foldT (fun _=>0) (a.take k)) r m):=Lib.hid (show foldT (fun _=>0) (a.take (k + 1))=updT (foldT (fun _=>0) (a.take k)) r m by rw [hsn,foldT_snoc];simp only [Int.toNat_natCast];rw [hx,hmx])
           have HRL:=Lib.hid hr
           clear hm hsn ht p0 p1 hT hx hr
           go_wp2
           go_region
           all_goals
             go_wp2
             go_roundw
             case rel=>exact ⟨k + 1,by omega,by go_num,by rw [HST.out];first | exact ((HT0.out.set r HRL.out m).alloc _).drew | exact (HT2.out.set r HRL.out m).drew | exact HT2.out.drew.set r HRL.out m | exact HT2.out.set r HRL.out m⟩
             case measure=>simp [intOf];omega
         · have hkn:k=na:=by omega
           have HT3:Hid (TJ (foldT (fun _=>0) a) w wr):=Lib.hid (show TJ (foldT (fun _=>0) a) w wr by
             have h:=hT
             rw [hkn,HNA.out,List.take_length] at h;exact h)
           clear hT hkn
           go_wp2
           go_roundw
           case rel=>exact ⟨1,by omega,rfl,.inr (.inl ⟨rfl,HRA.out,HT3.out⟩)⟩
           case measure=>simp [intOf]
     · have HJ:=Lib.hid (joinR_a (b:=b) h0)
       have H0:=Lib.hid h0
       have HQ:=Lib.hid (noV_e h0)
       clear h0
       go_wp2_with fail
       refine (vbare_any _ a _ (HVA.out.below HB.out) HLA.out (HG.out.below HB.out)).mono ?_
       rintro r w1 ⟨rfl,hb1⟩
       rw [HQ.out]
       have HB1:=Lib.hid (HT.out.below hb1).2
       clear hb1
       go_wp2
       go_ret2
       exact joinR_errs HJ.out w _ H0.out HB1.out
   · have HT:=Lib.hid hT
     have HB:=Lib.hid hT.2
     have hzr:=hT.lt
     have HRA:=Lib.hid hra
     clear hT hra
     by_cases h0:(vrightF b).1=0
     · have H0:=Lib.hid h0
       have HRB:=Lib.hid ((vright_ok b).1 h0)
       clear h0
       go_wp2_with fail
       refine (vbare_any _ b _ (HVB.out.below HB.out) HLB.out (HG.out.below HB.out)).mono ?_
       rintro r w1 ⟨rfl,hb1⟩
       rw [H0.out,noV_0]
       have HT1:=Lib.hid (HT.out.below hb1)
       clear hb1
       go_wp2
       go_loopw [28] (fun i wr=>∃ k:Nat,k≤nb∧i=.int .i64 k∧TJ (foldT (foldT (fun _=>0) a) (b.take k)) w wr) (fun i _=>nb - (intOf i).toNat)
       case atStart=>exact ⟨0,by omega,rfl,HT1.out⟩
       case round =>
         obtain ⟨k,hk,rfl,hT⟩:=hrel
         by_cases hlt:k < nb
         · obtain ⟨t, ht⟩ : ∃ t, b[k]? = some t := ⟨b[k]'(by have := HNB.out; omega), List.getElem?_eq_getElem _⟩
           obtain ⟨b1,o1,rfl,hb1,p0,p1⟩:=FB.out k t ht
           have hm:=okV_mem HRB.out.2 t (List.mem_of_getElem? ht)
           have hsn:=take_snocE ht
           obtain ⟨rep,time⟩:=t
           simp only at p0 p1 hm
           obtain ⟨r,rfl⟩:=Int.eq_ofNat_of_zero_le hm.1
           have hr:r < 201:=by omega
           have hr':(r:Int) < 201:=by omega
           have hr0:(0:Int)≤(r:Int):=by omega
           have q0:=(hT.2.cell (p:=⟨b1,o1 + k * 2,none⟩) hb1).trans p0
           have q1:=(hT.2.cell (p:=⟨b1,o1 + k * 2 + 1,none⟩) hb1).trans p1
           obtain ⟨c0,y0⟩:=(hT.alloc (.cells #[.int .i64 (r:Int),.int .i64 time] 62)).cells r hr
           have hzt:=hT.lt
           have h16:nb≤16:=by rw [HNB.out];exact HRB.out.1
           have HT0:=Lib.hid hT
           have HT2:=Lib.hid (hT.alloc (.cells #[.int .i64 (r:Int),.int .i64 time] 62))
           obtain ⟨x,hx⟩:∃ x,foldT (foldT (fun _=>0) a) (b.take k) r=x:=⟨_,rfl⟩
           obtain ⟨m,hmx⟩:∃ m,max x time=m:=⟨_,rfl⟩
           have hmx2:(if x < time then time else x)=m:=by rw [←hmx];split <;> omega
           rw [hx] at c0
           have HST:Hid (foldT (foldT (fun _=>0) a) (b.take (k + 1))=updT (foldT (foldT (fun _=>0) a) (b.take k)) r m):=Lib.hid (show foldT (foldT (fun _=>0) a) (b.take (k + 1))=updT (foldT (foldT (fun _=>0) a) (b.take k)) r m by rw [hsn,foldT_snoc];simp only [Int.toNat_natCast];rw [hx,hmx])
           have HRL:=Lib.hid hr
           clear hm hsn ht p0 p1 hT hx hr
           go_wp2
           go_region
           all_goals
             go_wp2
             go_roundw
             case rel=>exact ⟨k + 1,by omega,by go_num,by rw [HST.out];first | exact ((HT0.out.set r HRL.out m).alloc _).drew | exact (HT2.out.set r HRL.out m).drew | exact HT2.out.drew.set r HRL.out m | exact HT2.out.set r HRL.out m⟩
             case measure=>simp [intOf];omega
         · have hkn:k=nb:=by omega
           have HT3:Hid (TJ (foldT (foldT (fun _=>0) a) b) w wr):=Lib.hid (show TJ (foldT (foldT (fun _=>0) a) b) w wr by
             have h:=hT
             rw [hkn,HNB.out,List.take_length] at h;exact h)
           clear hT hkn
           go_wp2
           go_roundw
           case rel=>exact ⟨2,by omega,rfl,.inr (.inr ⟨rfl,HRA.out,HRB.out,HT3.out⟩)⟩
           case measure=>simp [intOf]
     · have HJ:=Lib.hid (joinR_b ((vright_ok a).2 HRA.out) h0)
       have H0:=Lib.hid h0
       have HQ:=Lib.hid (noV_e h0)
       clear h0
       go_wp2_with fail
       refine (vbare_any _ b _ (HVB.out.below HB.out) HLB.out (HG.out.below HB.out)).mono ?_
       rintro r w1 ⟨rfl,hb1⟩
       rw [HQ.out]
       have HB1:=Lib.hid (HT.out.below hb1).2
       clear hb1
       go_wp2
       go_ret2
       exact joinR_errs HJ.out w _ H0.out HB1.out
   · have HRA:=Lib.hid hra
     have HRB:=Lib.hid hrb
     have HB:=Lib.hid hT.2
     have hzr:=hT.lt
     have HG2:=Lib.hid hT.1
     have HI:=Lib.hid (arr_infoA (bothT a b))
     clear hra hrb hT
     go_wp2_with (with_reducible refine wpList_load_row rfl _ _ rfl _ rfl _ _ _ _ HG2.out Tryz.underlying130 rfl HI.out ?_)
     have HJL:Hid (joinL a b=tab (bothT a b) 201):=Lib.hid (show joinL a b=tab (bothT a b) 201 from (tab_both HRA.out.2 HRB.out.2 201).symm)
     have HGT:Hid (∀ r,bothT a b r≤1099511627776):=Lib.hid (show ∀ r,bothT a b r≤1099511627776 from fun r=>by rw [bothT_is HRA.out.2 HRB.out.2];exact (jF_bd HRA.out.2 HRB.out.2 r).2)
     obtain ⟨G,hG⟩:∃ G,bothT a b=G:=⟨_,rfl⟩
     rw [hG] at HJL HGT ⊢
     clear HG2 HI hG
     go_loopw [12,45] (fun lv i wr=>∃ k:Nat,k≤201∧i=.int .i64 k∧ownsE wr w.heap.size lv (tab G k)∧Below w.heap.size w wr) (fun _ i _=>201 - (intOf i).toNat)
     case atStart=>exact ⟨0,by omega,rfl,ownsE_nil _ _,HB.out⟩
     case round =>
       obtain ⟨k,hk,rfl,ho,hb⟩:=hrel
       have HO:=Lib.hid ho
       have HB2:=Lib.hid hb
       have hz2:=hb.size
       clear ho hb
       by_cases hlt:k < 201
       · have hlt':(k:Int) < 201:=by omega
         have hlen:=tab_len G k
         by_cases hp:0 < G k
         · have HT:=Lib.hid (tab_yes hp)
           obtain ⟨y,hy⟩:∃ y,G k=y:=⟨_,rfl⟩
           rw [hy] at hp HT
           have hm:=fun W=>idx_arr G k y W hlt hy
           clear hy
           go_wp2_with (at_builtin;refine wpList_append_ent rfl _ _ rfl w.heap.size _ (tab G k) rfl (HO.out.alloc _) wr.heap.size 1 rfl ⟨k,y⟩ ?c1 ?c2 ?c3 ?_)
           case c1=>exact entBlk_new _ _ _
           case c2=>omega
           case c3=>simp;omega
           · intro g cap w2 ho2 hg2
             have HO2:Hid (ownsE w2 w.heap.size (.slice (some ⟨g,0,none⟩) ((tab G k).length + 1) cap) (tab G (k + 1))):=Lib.hid (show ownsE w2 w.heap.size (.slice (some ⟨g,0,none⟩) ((tab G k).length + 1) cap) (tab G (k + 1)) by rw [HT.out];exact ho2)
             have HB3:Hid (Below w.heap.size w w2):=(HB2.out.alloc hz2 _).grown hg2 (by simp;omega) (fun g hg=>(HO.out.lt g hg).1)
             clear ho2 hg2
             go_wp2
             go_roundw
             case rel=>exact ⟨k + 1,by omega,by go_num,HO2.out,HB3.out⟩
             case measure=>simp [intOf];omega
         · have HT:=Lib.hid (tab_no hp)
           obtain ⟨y,hy⟩:∃ y,G k=y:=⟨_,rfl⟩
           rw [hy] at hp
           have hm:=fun W=>idx_arr G k y W hlt hy
           clear hy
           go_wp2
           go_roundw
           case rel=>exact ⟨k + 1,by omega,by go_num,by rw [HT.out];exact HO.out,HB2.out⟩
           case measure=>simp [intOf];omega
       · obtain rfl:k=201:=by omega
         have H0A:=Lib.hid ((vright_ok a).2 HRA.out)
         have H0B:=Lib.hid ((vright_ok b).2 HRB.out)
         rw [←HJL.out] at HO
         obtain ⟨av,cv,hv,_⟩:=HO.out.is.form
         subst hv
         obtain ⟨m,hm⟩:∃ m,m=(joinL a b).length:=⟨_,rfl⟩
         have HM:=Lib.hid hm
         have hml:m≤201:=by rw [hm,HJL.out];exact tab_len G 201
         rw [←hm] at HO ⊢
         clear hm hlt
         by_cases h16:16 < m
         · have HJ:=Lib.hid (joinR_many H0A.out H0B.out (by rw [←HM.out];exact h16))
           go_wp2
           go_ret2
           exact joinR_errs HJ.out w _ (by decide) HB2.out
         · have HJ:=Lib.hid (joinR_ok H0A.out H0B.out (by rw [←HM.out];exact h16))
           go_wp2
           go_ret2
           exact joinR_good HJ.out w _ _ HO.out HB2.out
end Go.Proofs.YtddbpnplbcjpgaaGreatDoor
namespace Go.Proofs.YtddbpnplbcjpgaaGreatDoor
open Go.RowKit
theorem run_append_wrsJ (w:World) (ty:TypeId) (base:Nat) (v:Value) (l:List Wr) (hown:ownsW w base v l) {b2:Nat} (u:Value) (ys:List Wr) (hsrc:ownsW w b2 u ys) (hlen:l.length + ys.length≤1000000) (hbase:base≤w.heap.size) :
   ∃ v' w',(Builtin.append_ #[28,28] ty #[v,u]).run Tryz.prog w=.ok v' w'∧ownsW w' base v' (l ++ ys)∧w.grownBy w' v.ownBlock∧(v'.ownBlock=v.ownBlock∨v'.ownBlock=some w.heap.size):=by
 obtain ⟨i0,hi,hz0,hz1,hz2⟩:=info_parts info_wr
 have hsrc':w.ownsRow b2 26 6 u ys.length (wrsC ys):=hsrc
 rcases hsrc'.2 with ⟨e,h0⟩ | ⟨g,cap,cur,e,_⟩
 · subst e
   obtain rfl:ys=[]:=List.length_eq_zero_iff.1 h0
   exact ⟨v,w,run_append_owned_none w base 28 ty 26 i0 6 Tryz.underlying28 hi v _ _ hown,by rw [List.append_nil];exact hown,⟨rfl,rfl,rfl,Nat.le_refl _,fun _ _ _=>rfl⟩,.inl rfl⟩
 · subst e
   obtain ⟨v',w',h1,h2,h3,_,h5⟩:=run_append_own_at (P:=Tryz.prog) w base 28 ty 26 i0 (.agg #[.int .i64 0,.int .i64 0,.int .i64 0,.string ⟨#[]⟩,.string ⟨#[]⟩,.int .i64 0]) 6 64 Tryz.underlying28 hi hz0 hz1 hz2 rfl (by decide) v l.length (wrsC l) hown ⟨g,0,none⟩ ys.length cap (wrsC ys) (wrsC_len ys) (fun j u hj=>by
     have hadd:(⟨g,0,none⟩:Addr).add j=⟨g,j,none⟩:=by unfold Addr.add;split <;> simp_all
     have hj2:j < ys.length * 6:=by rw [←wrsC_len];exact (List.getElem?_eq_some_iff.1 hj).1
     rw [hadd,World.ownsRow.cellAt hsrc' j hj2,hj]) (wrsC_cell ys) (by unfold maxLen;omega) (by omega) hbase
   refine ⟨v',w',h1,?_,h3,h5⟩
   unfold ownsW
   rw [List.length_append,wrsC_app]
   exact h2
theorem wpList_append_wrsJ (w:World) {ops:Array Oper} {rest:List Oper} {o:Oper} {a:Act} {Q:Exit→Act→World→Prop} (hgd:o.guard=none) (s x:Operand)
   (ho:o.op=.call { callee:=.builtin .append,args:=#[s,x],argTypes:=#[28,28] })
   (base:Nat) (v:Value) (l:List Wr) (hs:a.eval s=v) (hown:ownsW w base v l) {b2:Nat} (u:Value) (ys:List Wr) (hx:a.eval x=u) (hsrc:ownsW w b2 u ys) (hlen:l.length + ys.length≤1000000) (hbase:base≤w.heap.size)
   (h:∀ v' w',ownsW w' base v' (l ++ ys)→w.grownBy w' v.ownBlock→(v'.ownBlock=v.ownBlock∨v'.ownBlock=some w.heap.size)→wpList Tryz.prog ops Q rest (a.put o.dst v') w'):wpList Tryz.prog ops Q (o :: rest) a w:=by
 obtain ⟨v',w',h1,h2,h3,h4⟩:=run_append_wrsJ w o.type base v l hown u ys hsrc hlen hbase
 exact Lib.wpList_append_run w hgd s x _ _ ho _ _ hs hx _ _ h1 (h v' w' h2 h3 h4)
theorem step_append_wrsJ (w:World) {ops:Array Oper} {o:Oper} {a:Act} {K:Act→World→Prop} {Q:Exit→Act→World→Prop} {E:Prop} (hgd:o.guard=none) (s x:Operand)
   (ho:o.op=.call { callee:=.builtin .append,args:=#[s,x],argTypes:=#[28,28] })
   (base:Nat) (v:Value) (l:List Wr) (hs:a.eval s=v) (hown:ownsW w base v l) {b2:Nat} (u:Value) (ys:List Wr) (hx:a.eval x=u) (hsrc:ownsW w b2 u ys) (hlen:l.length + ys.length≤1000000) (hbase:base≤w.heap.size)
   (h:∀ v' w',ownsW w' base v' (l ++ ys)→w.grownBy w' v.ownBlock→(v'.ownBlock=v.ownBlock∨v'.ownBlock=some w.heap.size)→K (a.put o.dst v') w') :
   if Region.wanted o (yielded ops a.tmps)=true then Oper.wp Tryz.prog o a w K Q else E:=by
 have hw:Region.wanted o (yielded ops a.tmps)=true:=by simp [Region.wanted,hgd]
 rw [if_pos hw]
 obtain ⟨v',w',hr,h2,h3,h4⟩:=run_append_wrsJ w o.type base v l hown u ys hsrc hlen hbase
 unfold Oper.wp execOp
 simp only [ho,resolve,invoke,builtin,Sem.run_bind,Sem.run_pure,Result.andThen_ok,List.map_toArray,List.map_cons,List.map_nil,hs,hx,hr]
 exact h v' w' h2 h3 h4
structure RefIn (w:World) (R:Nat) (G:Nat→Prop) (s:LogS) (u:List Wr) (vh vl:Value):Prop where
 row:w.heap[R]? = some (.cells #[.int .i64 s.rep,vh,vl] 43 (0,0))
 ents:ownsE w 0 vh s.hv
 wrs:ownsW w 0 vl u
 perm:u.Perm s.ws
 inR:G R
 inE:∀ k,vh.ownBlock=some k→G k
 inW:∀ k,vl.ownBlock=some k→G k
 lt:∀ k,G k→k < w.heap.size
section
variable {w w':World} {R:Nat} {F G:Nat→Prop} {s:LogS} {u:List Wr} {vh vl:Value}
theorem RefIn.len (h:RefIn w R G s u vh vl):u.length=s.ws.length:=h.perm.length_eq
theorem RefIn.but (h:RefIn w R G s u vh vl) (hb:But F w w') (hd:∀ k,G k→¬ F k):RefIn w' R G s u vh vl :=
 ⟨(hb.block R (h.lt R h.inR) (hd R h.inR)).trans h.row,ownsRow_but h.ents hb (fun k e=>hd k (h.inE k e)),ownsRow_but h.wrs hb (fun k e=>hd k (h.inW k e)),h.perm,h.inR,h.inE,h.inW,fun k hk=>Nat.lt_of_lt_of_le (h.lt k hk) hb.size⟩
theorem RefIn.below (h:RefIn w R G s u vh vl) (hb:Below w.heap.size w w'):RefIn w' R G s u vh vl :=
 h.but (F:=fun _=>False) (But.of_below hb) (fun _ _ h=>h)
theorem RefIn.c0 (h:RefIn w R G s u vh vl):w.cell? ⟨R,0,none⟩=some (.int .i64 s.rep):=cell_of_row _ _ 0 _ _ _ h.row
theorem RefIn.c1 (h:RefIn w R G s u vh vl):w.cell? ⟨R,1,none⟩=some vh:=cell_of_row _ _ 1 _ _ _ h.row
theorem RefIn.c2 (h:RefIn w R G s u vh vl):w.cell? ⟨R,2,none⟩=some vl:=cell_of_row _ _ 2 _ _ _ h.row
theorem RefIn.plt (h:RefIn w R G s u vh vl):R < w.heap.size:=h.lt R h.inR
theorem RefIn.store {s2:LogS} {u2:List Wr} {vh2 vl2:Value} (h:RefIn w R G s u vh vl) (he:ownsE w 0 vh2 s2.hv) (ho:ownsW w 0 vl2 u2) (hr:s2.rep=s.rep) (hp:u2.Perm s2.ws) (m:Nat) (hh:∀ k,vh2.ownBlock=some k→m≤k) (hl:∀ k,vl2.ownBlock=some k→m≤k) :
   RefIn ((w.setCell ⟨R,1,none⟩ vh2).setCell ⟨R,2,none⟩ vl2) R (fun k=>(G k∨m≤k)∧k < w.heap.size) s2 u2 vh2 vl2:=by
 have r1:=heap_setCell_same _ _ 1 _ _ vh2 h.row
 have r2:=heap_setCell_same _ _ 2 _ _ vl2 r1
 have hB:But (fun k=>k=R) w ((w.setCell ⟨R,1,none⟩ vh2).setCell ⟨R,2,none⟩ vl2):=((But.refl (fun k=>k=R) w).setCell (.inl (show R=R from rfl)) _).setCell (.inl (show R=R from rfl)) _
 refine ⟨by rw [hr];exact r2,ownsRow_but he hB (fun k e e2=>?_),ownsRow_but ho hB (fun k e e2=>?_),hp,⟨.inl h.inR,h.plt⟩,fun k e=>⟨.inr (hh k e),(ownsE.lt he k e).2⟩,fun k e=>⟨.inr (hl k e),(ownsW.lt ho k e).2⟩,fun k hk=>by simpa using hk.2⟩
 · subst e2;exact ownsRow_row he h.row (show (43:TypeId)≠62 by decide).symm e
 · subst e2;exact ownsRow_row ho h.row (show (43:TypeId)≠26 by decide).symm e
end
def RefAt (w:World) (R:Nat) (G:Nat→Prop) (s:LogS):Prop:=∃ u vh vl,RefIn w R G s u vh vl
theorem perm_sorted {s:LogS} (ok:LogOk s) {u l':List Wr} (hu:u.Perm s.ws) (hl:l'.Perm u) (hs:l'.Pairwise (fun a b=>leW a b=true)):l'=s.ws:=by
 refine List.Perm.eq_of_pairwise (le:=fun a b=>leW a b=true) ?_ hs (ok.srt.imp (fun {a b} h=>?_)) (hl.trans hu)
 · intro a b ha hb h1 h2
   have ha':a∈s.ws:=(hl.trans hu).mem_iff.1 ha
   refine late_ids ok.srt ha' hb ?_
   unfold leW at h1 h2
   simp only [decide_eq_true_eq] at h1 h2
   unfold wid
   exact Prod.ext (by show a.time=b.time;omega) (by show a.rep=b.rep;omega)
 · have:=late_lt.1 h
   unfold leW
   exact decide_eq_true (by omega)
theorem rsort_nil (B:Nat) (w:World):Calls Tryz.prog 49 #[.iface 28 (.slice none 0 0),.func (.func 50) #[] #[.pointer (some ⟨B,0,none⟩)]] w fun e w'=>e=.returned (.tuple #[])∧Below w.heap.size w w':=by
 have hcon:=Any.sort_SliceStable_tiny Tryz.stabC 28 26 wsI wsE (by kernel_rfl) (by kernel_rfl) (by kernel_rfl) (by kernel_rfl) 25 (fun _=>by kernel_rfl) none 0 0 (by omega) 97 (by kernel_rfl) (.func 50) #[] #[.pointer (some ⟨B,0,none⟩)] w
 change Calls Tryz.prog 49 _ _ _ at hcon
 exact hcon.mono fun e w' ⟨h1,os,h2⟩=>⟨h1,by rw [h2];exact ⟨rfl,rfl,rfl,by rw [Sort.size_grow];omega,fun k hk=>Sort.heap_grow_old _ _ hk⟩⟩
theorem rsort_all (base B:Nat) (v:Value) (l:List Wr) (w:World) (ho:ownsW w base v l) (hB:w.cell? ⟨B,0,none⟩=some v) (hne:∀ g,v.ownBlock=some g→B≠g) (hn:l.length≤1000000) (hbs:base≤w.heap.size) :
   Calls Tryz.prog 49 #[.iface 28 v,.func (.func 50) #[] #[.pointer (some ⟨B,0,none⟩)]] w fun e w' =>
     e=.returned (.tuple #[])∧∃ l':List Wr,l'.Perm l∧l'.Pairwise (fun a b=>leW a b=true)∧IsWrs w' v l'∧Below base w w'∧w'.cell? ⟨B,0,none⟩=some v:=by
 have hBs:=lt_of_cellS hB
 rcases ho.2 with ⟨e,h0⟩ | ⟨g,cap,cur,e,_⟩
 · subst e
   obtain rfl:l=[]:=List.length_eq_zero_iff.1 h0
   refine (rsort_nil B w).mono ?_
   rintro e w' ⟨h1,h2⟩
   exact ⟨h1,[],.nil,.nil,.inl ⟨none,0,rfl,rfl⟩,h2.mono hbs,by rw [World.cell?_of_block (h2.block B hBs)];exact hB⟩
 · subst e
   refine (rsort_any g cap base B l w ho hB (hne g rfl) hn).mono ?_
   rintro e w' ⟨h1,l',h2,h3,h4,h5⟩
   have hb:=(ho.lt g rfl).1
   refine ⟨h1,l',h2,h3,by rw [←h2.length_eq] at h4 ⊢;exact h4,(Below.refl base w).grown h5 hbs (fun k hk=>by cases hk;exact hb),?_⟩
   rw [World.cell?_of_block (h5.block B hBs (fun e=>hne g rfl (Option.some.inj e)))];exact hB
set_option maxRecDepth 100000 in
set_option maxHeartbeats 8000000 in
theorem rwrites_any (R:Nat) (G:Nat→Prop) (s:LogS) (u:List Wr) (vh vl:Value) (w:World) (h:RefIn w R G s u vh vl) (ok:LogOk s) :
   Calls Tryz.prog 19 #[.pointer (some ⟨R,0,none⟩)] w fun e w'=>∃ a c,e=.returned (.slice a s.ws.length c)∧IsWrs w' (.slice a s.ws.length c) s.ws∧Below w.heap.size w w':=by
 have p2:w.cell? ⟨R,2,none⟩=some vl:=cell_of_row _ _ 2 _ _ _ h.row
 have HI:=Lib.hid h.wrs
 have HLN:Hid (u.length≤300):=Lib.hid (by rw [h.len];exact ok.len)
 have HUL:Hid (u.length=s.ws.length):=Lib.hid h.len
 have HPS:Hid (∀ l':List Wr,l'.Perm u→l'.Pairwise (fun a b=>leW a b=true)→l'=s.ws):=Lib.hid (fun l' h1 h2=>perm_sorted ok h.perm h1 h2)
 obtain ⟨av,nv,cv,rfl⟩:∃ a n c,vl=.slice a n c:=by obtain ⟨a,c,e,_⟩:=h.wrs.is.form;exact ⟨a,_,c,e⟩
 clear h ok
 go_enter Tryz.func19,Tryz.ntmps19
 go_wp2_with (first
   | (at_builtin;refine wpList_append_wrsJ _ rfl _ _ rfl w.heap.size _ [] rfl (ownsW_nil _ _) _ u rfl HI.out (by have:=HLN.out;simp;omega) (Nat.le_refl _) ?_;intro v1 w1 ho1 hg1 hb1;obtain ⟨a1,c1,rfl,_⟩:=ho1.is.form;have HO1:=Lib.hid ho1;have HG1:=Lib.hid hg1;clear ho1 hg1 hb1)
   | fail)
 have hb1:Below w.heap.size w w1:=(Below.refl _ w).grown HG1.out (Nat.le_refl _) (fun g hg=>absurd (show (none:Option Nat)=some g from hg) (by simp))
 have HB1:=Lib.hid hb1
 have ho2:ownsW (w1.alloc (.cells #[.slice a1 u.length c1] 28)) w.heap.size (.slice a1 u.length c1) u:=HO1.out.alloc _
 have hB2:(w1.alloc (.cells #[.slice a1 u.length c1] 28)).cell? ⟨w1.heap.size,0,none⟩=some (.slice a1 u.length c1):=by simp
 obtain ⟨w2,hw2⟩:∃ w2,w2=w1.alloc (.cells #[.slice a1 u.length c1] 28):=⟨_,rfl⟩
 have HO2:Hid (ownsW w2 w.heap.size (.slice a1 u.length c1) u):=Lib.hid (by rw [hw2];exact ho2)
 have HB2:Hid (w2.cell? ⟨w1.heap.size,0,none⟩=some (.slice a1 u.length c1)):=Lib.hid (by rw [hw2];exact hB2)
 have HNE:Hid (∀ g,Value.ownBlock (.slice a1 u.length c1)=some g→w1.heap.size≠g):=Lib.hid (fun g hg=>by have:=(HO1.out.lt g hg).2;omega)
 have HL2:Hid (Below w.heap.size w w2):=Lib.hid (by rw [hw2];exact hb1.alloc hb1.size _)
 rw [←hw2]
 clear hw2 ho2 hB2 hb1
 refine (rsort_all w.heap.size w1.heap.size _ u w2 HO2.out HB2.out HNE.out (by have:=HLN.out;omega) HL2.out.size).mono ?_
 rintro e w3 ⟨rfl,l',hl1,hl2,hl3,hl4,hl5⟩
 have HL3:=Lib.hid (hl3)
 have HE3:=Lib.hid (HPS.out l' hl1 hl2)
 have HB3:=Lib.hid (HL2.out.trans hl4)
 clear hl1 hl2 hl3 hl4
 go_wp2_with fail
 go_ret
 refine ⟨a1,c1,by rw [←HUL.out];rfl,?_,HB3.out⟩
 rw [←HE3.out,←show u.length=l'.length by rw [HE3.out,HUL.out]]
 exact HL3.out
end Go.Proofs.YtddbpnplbcjpgaaGreatDoor
namespace Go.Proofs.YtddbpnplbcjpgaaGreatDoor
open Go.RowKit
theorem errV_ok:errV 0=.nilIface:=rfl
theorem errV_no {e:Nat} (h:e≠0):errV e=.iface 40 (.int .i64 e):=by unfold errV;rw [if_neg h]
def batAt (w:World) (B:Nat) (vf vh vw:Value):Prop :=
 w.cell? ⟨B,0,none⟩=some vf∧w.cell? ⟨B,1,none⟩=some vh∧w.cell? ⟨B,2,none⟩=some vw
theorem batAt.below {w w':World} {B:Nat} {vf vh vw:Value} {m:Nat} (h:batAt w B vf vh vw) (hb:Below m w w') (hm:B < m):batAt w' B vf vh vw :=
 ⟨(hb.cell hm).trans h.1,(hb.cell hm).trans h.2.1,(hb.cell hm).trans h.2.2⟩
theorem batAt_new (w:World) (vf vh vw:Value) (t:TypeId):batAt (w.alloc (.cells #[vf,vh,vw] t)) w.heap.size vf vh vw:=by
 unfold batAt;simp
theorem wright_as (x:Wr) (e:Nat) (w:World) (hk:x.key.size≤140737488351232) (hv:x.value.size≤140737488351232) (he:wE x=e) :
   Calls Tryz.prog 27 #[.agg #[.int .i64 x.time,.int .i64 x.rep,.int .i64 x.kind,.string x.key,.string x.value,.int .i64 x.n]] w fun r w'=>r=.returned (errV e)∧Below w.heap.size w w':=by
 subst he;exact wright_any x.time x.rep x.kind x.key x.value x.n w hk hv
set_option maxRecDepth 100000 in
set_option maxHeartbeats 4000000 in
theorem bwrong_any (vf vh vw:Value) (f h:List Ent) (l:List Wr) (k:Nat) (x:Wr) (p:Option Wr) (e:Nat) (w:World) (hf:IsEnts w vf f) (hh:IsEnts w vh h) (hv:IsWrs w vw l) (hlf:f.length≤9223372036854775807) (hlh:h.length≤9223372036854775807) (hl:l.length≤60)
   (hx:l[k]? = some x) (hp:(k=0∧p=none)∨∃ j q,k=j + 1∧l[j]? = some q∧p=some q) (hok:∀ t∈l,WrOk t) (hg:errT w) (he:bwE f h p x=e) :
   Calls Tryz.prog 69 #[.agg #[vf,vh,vw],.int .i64 (k:Int)] w fun r w'=>r=.returned (.int .i64 (e:Nat))∧Below w.heap.size w w':=by
 have HF:=Lib.hid hf
 have HH:=Lib.hid hh
 have HG:=Lib.hid hg
 have HLF:=Lib.hid hlf
 have HLH:=Lib.hid hlh
 obtain ⟨aw,cw,rfl,fw⟩:=hv.form
 have FW:=Lib.hid fw
 obtain ⟨n,hn⟩:∃ n,n=l.length:=⟨_,rfl⟩
 rw [←hn] at hl ⊢
 have hkn:k < n:=by rw [hn];exact (List.getElem?_eq_some_iff.1 hx).1
 obtain ⟨b1,o1,rfl,hb1,p0,p1,p2,p3,p4,p5⟩:=fw k x hx
 have HOK:=Lib.hid (hok x (List.mem_of_getElem? hx))
 obtain ⟨ew,hew⟩:∃ ew,wE x=ew:=⟨_,rfl⟩
 have HEW:=Lib.hid hew
 have HE:=Lib.hid he
 have HP:=Lib.hid hp
 clear hf hh hg hlf hlh hv fw hn hx hp hok he hew
 go_enter Tryz.func69,Tryz.ntmps69
 go_wp2_with fail
 refine (wright_as x ew _ HOK.out.2.2.1 HOK.out.2.2.2 HEW.out).mono ?_
 rintro r w1 ⟨rfl,hb2⟩
 have hz1:w.heap.size + 1 < w1.heap.size:=by have:=hb2.size;simp at this;omega
 have HZ1:=Lib.hid hz1
 have HBA1:Hid (batAt w1 w.heap.size vf vh (.slice (some ⟨b1,o1,none⟩) n cw)):=Lib.hid (((batAt_new w vf vh (.slice (some ⟨b1,o1,none⟩) n cw) 30).below ((Below.refl _ _).alloc (Nat.le_refl _) _) (by simp)).below hb2 (by simp;omega))
 have HWA1:Hid (wrAt w1 (w.heap.size + 1) x.time x.rep x.kind x.key x.value x.n):=Lib.hid ((by simpa using wrAt_new (w.alloc (.cells #[vf,vh,.slice (some ⟨b1,o1,none⟩) n cw] 30)) x.time x.rep x.kind x.key x.value x.n 26:wrAt _ (w.heap.size + 1) x.time x.rep x.kind x.key x.value x.n).below hb2 (by simp))
 have HB1:Hid (Below w.heap.size w w1):=Lib.hid ((((Below.refl _ _).alloc (Nat.le_refl _) _).alloc (by simp) _).trans (hb2.mono (by simp;omega)))
 clear hb2 p0 p1 p2 p3 p4 p5 hz1
 by_cases h0:ew=0
 · subst h0
   rw [errV_ok]
   have hla:lateO p x∨¬ lateO p x:=Classical.em _
   rcases HP.out with ⟨hk0,hp0⟩ | ⟨j,q,hkj,hq,hpq⟩
   · subst hk0 hp0
     obtain ⟨b,hb⟩:∃ b,wiF (x.time,x.rep) f h=b:=⟨_,rfl⟩
     have HWI:=Lib.hid hb
     have HR:Hid (e=if b=true then 0 else 6):=Lib.hid (by
       rw [←HE.out]
       cases b with
       | true=>rw [bwE_fine (p:=none) HEW.out trivial hb];rfl
       | false=>rw [bwE_state (p:=none) HEW.out trivial hb];rfl)
     clear hb hla
     obtain ⟨c0,c1,c2,c3,c4,c5⟩:=HWA1.out
     obtain ⟨d0,d1,d2⟩:=HBA1.out
     go_wp2
     go_quiet (fail)
     go_wp2_with fail
     refine (within_as x.time x.rep vf vh f h b _ (HF.out.below (below_drewN HB1.out _)) (HH.out.below (below_drewN HB1.out _)) HLF.out HLH.out HWI.out).mono ?_
     rintro r w2 ⟨rfl,hb2⟩
     have HB2:Hid (Below w.heap.size w w2):=(below_drewN HB1.out _).trans (hb2.mono HB1.out.size)
     clear hb2 c0 c1 c2 c3 c4 c5 d0 d1 d2
     cases b with
     | true =>
       go_wp2
       go_ret
       exact ⟨by rw [HR.out];rfl,HB2.out⟩
     | false =>
       go_wp2
       go_ret
       exact ⟨by rw [HR.out];rfl,HB2.out⟩
   · obtain ⟨b2,o2,hbo,_,q0,q1,_⟩:=FW.out j q hq
     simp only [Option.some.injEq,Addr.mk.injEq,and_true] at hbo
     obtain ⟨rfl,rfl⟩:=hbo
     have r0:=(HB1.out.cell (p:=⟨b1,o1 + j * 6,none⟩) hb1).trans q0
     have r1:=(HB1.out.cell (p:=⟨b1,o1 + j * 6 + 1,none⟩) hb1).trans q1
     have HK:=Lib.hid hkj
     have hj1:(k:Int) - 1=(j:Int):=by omega
     have hj2:IntKind.i64.wrap ((k:Int) - 1)=(j:Int):=by rw [hj1];exact IntWalk.i64_in _ (by omega)
     have hj3:IntKind.i64.wrap (j:Int)=(j:Int):=IntWalk.i64_in _ (by omega)
     have hk0:(0:Int) < (k:Int):=by omega
     have z1:0 < k:=by omega
     have z2:decide (0 < k)=true:=by simp;omega
     have z3:decide ((0:Int) < (k:Int))=true:=by simp;omega
     have hjn:(j:Int) < (n:Int):=by omega
     have hjn':j < n:=by omega
     have hj0:(0:Int)≤(j:Int):=by omega
     obtain ⟨c,hc⟩:∃ c,cI (x.time,x.rep) (q.time,q.rep)=c:=⟨_,rfl⟩
     have HC:=Lib.hid hc
     have hc3:c=-1∨c=0∨c=1:=by rw [←hc];exact cI_three _ _ _ _
     obtain ⟨c0,c1,c2,c3,c4,c5⟩:=HWA1.out
     obtain ⟨d0,d1,d2⟩:=HBA1.out
     subst hpq
     clear q0 q1 hq hkj hc hla
     have hb1':b1 < w1.heap.size:=Nat.lt_of_lt_of_le hb1 HB1.out.size
     have k1:w1.cell? ⟨w.heap.size + 1,0,none⟩=some (.int .i64 x.time)∧w1.cell? ⟨w.heap.size + 1,1,none⟩=some (.int .i64 x.rep)∧w1.cell? ⟨w.heap.size,2,none⟩=some (.slice (some ⟨b1,o1,none⟩) n cw)∧w1.cell? ⟨b1,o1 + j * 6,none⟩=some (.int .i64 q.time)∧w1.cell? ⟨b1,o1 + j * 6 + 1,none⟩=some (.int .i64 q.rep):=⟨c0,c1,d2,r0,r1⟩
     by_cases hcl:c=1
     · subst hcl
       obtain ⟨b,hb⟩:∃ b,wiF (x.time,x.rep) f h=b:=⟨_,rfl⟩
       have HWI:=Lib.hid hb
       have HR:Hid (e=if b=true then 0 else 6):=Lib.hid (by
         rw [←HE.out]
         cases b with
         | true=>rw [bwE_fine (p:=some q) HEW.out HC.out hb];rfl
         | false=>rw [bwE_state (p:=some q) HEW.out HC.out hb];rfl)
       clear hb hc3
       go_wp2
       go_region_held3 (fun w'=>w'.cell? ⟨w.heap.size + 1,0,none⟩=some (.int .i64 x.time)∧w'.cell? ⟨w.heap.size + 1,1,none⟩=some (.int .i64 x.rep)∧w'.cell? ⟨w.heap.size,2,none⟩=some (.slice (some ⟨b1,o1,none⟩) n cw)∧w'.cell? ⟨b1,o1 + j * 6,none⟩=some (.int .i64 q.time)∧w'.cell? ⟨b1,o1 + j * 6 + 1,none⟩=some (.int .i64 q.rep)) (first | exact k1 | exact k2 | fail) (first | (go_at_call 88;((with_reducible refine (idcmp_as x.time x.rep q.time q.rep 1 _ HC.out).mono ?_);rintro r w2 ⟨rfl,hb2⟩;have HB2:Hid (Below w1.heap.size w1 w2):=Lib.hid (undrew3 hb2);have k2:w2.cell? ⟨w.heap.size + 1,0,none⟩=some (.int .i64 x.time)∧w2.cell? ⟨w.heap.size + 1,1,none⟩=some (.int .i64 x.rep)∧w2.cell? ⟨w.heap.size,2,none⟩=some (.slice (some ⟨b1,o1,none⟩) n cw)∧w2.cell? ⟨b1,o1 + j * 6,none⟩=some (.int .i64 q.time)∧w2.cell? ⟨b1,o1 + j * 6 + 1,none⟩=some (.int .i64 q.rep):=⟨(HB2.out.cell HZ1.out).trans c0,(HB2.out.cell HZ1.out).trans c1,(HB2.out.cell (Nat.lt_of_succ_lt HZ1.out)).trans d2,(HB2.out.cell hb1').trans r0,(HB2.out.cell hb1').trans r1⟩;clear hb2)) | fail)
       obtain ⟨e0,e1,e2,e3,e4⟩:=k2
       have g0:=(HB2.out.cell (p:=⟨w.heap.size,0,none⟩) (Nat.lt_of_succ_lt HZ1.out)).trans d0
       have g1:=(HB2.out.cell (p:=⟨w.heap.size,1,none⟩) (Nat.lt_of_succ_lt HZ1.out)).trans d1
       go_wp2_with fail
       have HB3:Hid (Below w.heap.size w w2):=HB1.out.trans (HB2.out.mono HB1.out.size)
       refine (within_as x.time x.rep vf vh f h b _ (HF.out.below HB3.out) (HH.out.below HB3.out) HLF.out HLH.out HWI.out).mono ?_
       rintro r w3 ⟨rfl,hb3⟩
       have HB4:Hid (Below w.heap.size w w3):=HB3.out.trans (hb3.mono HB3.out.size)
       clear hb3 k1 e0 e1 e2 e3 e4 g0 g1 c0 c1 c2 c3 c4 c5 d0 d1 d2
       cases b with
       | true =>
         go_wp2
         go_ret
         exact ⟨by rw [HR.out];rfl,HB4.out⟩
       | false =>
         go_wp2
         go_ret
         exact ⟨by rw [HR.out];rfl,HB4.out⟩
     · have HR:Hid (e=10):=Lib.hid (by rw [←HE.out,bwE_order (p:=some q) HEW.out (fun hl=>hcl (HC.out.symm.trans hl))])
       have y1:c≤0:=by omega
       have y2:decide (c≤0)=true:=by simp;omega
       clear hc3 hcl
       go_wp2
       go_region_held3 (fun w'=>w'.cell? ⟨w.heap.size + 1,0,none⟩=some (.int .i64 x.time)∧w'.cell? ⟨w.heap.size + 1,1,none⟩=some (.int .i64 x.rep)∧w'.cell? ⟨w.heap.size,2,none⟩=some (.slice (some ⟨b1,o1,none⟩) n cw)∧w'.cell? ⟨b1,o1 + j * 6,none⟩=some (.int .i64 q.time)∧w'.cell? ⟨b1,o1 + j * 6 + 1,none⟩=some (.int .i64 q.rep)) (first | exact k1 | exact k2 | fail) (first | (go_at_call 88;((with_reducible refine (idcmp_as x.time x.rep q.time q.rep c _ HC.out).mono ?_);rintro r w2 ⟨rfl,hb2⟩;have HB2:Hid (Below w1.heap.size w1 w2):=Lib.hid (undrew3 hb2);have k2:w2.cell? ⟨w.heap.size + 1,0,none⟩=some (.int .i64 x.time)∧w2.cell? ⟨w.heap.size + 1,1,none⟩=some (.int .i64 x.rep)∧w2.cell? ⟨w.heap.size,2,none⟩=some (.slice (some ⟨b1,o1,none⟩) n cw)∧w2.cell? ⟨b1,o1 + j * 6,none⟩=some (.int .i64 q.time)∧w2.cell? ⟨b1,o1 + j * 6 + 1,none⟩=some (.int .i64 q.rep):=⟨(HB2.out.cell HZ1.out).trans c0,(HB2.out.cell HZ1.out).trans c1,(HB2.out.cell (Nat.lt_of_succ_lt HZ1.out)).trans d2,(HB2.out.cell hb1').trans r0,(HB2.out.cell hb1').trans r1⟩;clear hb2)) | fail)
       go_wp2
       go_ret
       exact ⟨by rw [HR.out];rfl,HB1.out.trans (HB2.out.mono HB1.out.size)⟩
 · have HR:Hid (e=ew):=Lib.hid (by rw [←HE.out,bwE_w HEW.out h0])
   rw [errV_no h0]
   go_wp2_with fail
   refine (tell_err _ (ew:Int) _ (HG.out.below HB1.out) (.inl rfl)).mono ?_
   rintro r w2 ⟨rfl,hb2⟩
   have HB2:Hid (Below w.heap.size w w2):=HB1.out.trans (hb2.mono HB1.out.size)
   clear hb2
   go_wp2
   go_ret
   exact ⟨by rw [HR.out];rfl,HB2.out⟩
end Go.Proofs.YtddbpnplbcjpgaaGreatDoor
