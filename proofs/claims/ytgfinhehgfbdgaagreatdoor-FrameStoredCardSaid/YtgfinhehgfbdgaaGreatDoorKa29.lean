import Derived.Test.YtgfinhehgfbdgaaGreatDoorKa27
import Derived.Deep.RegionHeld3
import Derived.Test.YtgfinhehgfbdgaaGreatDoorKa20
import Derived.Test.YtgfinhehgfbdgaaGreatDoorKa24
import Derived.Test.YtgfinhehgfbdgaaGreatDoorKa18
import Derived.Test.YtgfinhehgfbdgaaGreatDoorKa01
namespace Go.Proofs.YtgfinhehgfbdgaaGreatDoor
open Go.RowKit
theorem vof_as (v:Value) (l:List Ent) (x y:Int) (w:World) (hv:IsEnts w v l) (hl:l.length≤9223372036854775807) (h:ofF l x=y) :
   Calls Tryz.prog 156 #[v,.int .i64 x] w fun r w'=>r=.returned (.int .i64 y)∧Below w.heap.size w w':=by
 subst h;exact vof_any v l x w hv hl
theorem covA_drop {a b:List Ent} {k:Nat} {t:Ent} (h:b[k]? = some t):covA a (b.drop k)=(decide (t.time≤ofF a t.rep) && covA a (b.drop (k + 1))):=by
 obtain ⟨hk,ht⟩:=List.getElem?_eq_some_iff.1 h
 rw [List.drop_eq_getElem_cons hk,ht];rfl
set_option maxRecDepth 100000 in
set_option maxHeartbeats 4000000 in
theorem vcov_any (va vb:Value) (a b:List Ent) (w:World) (ha:IsEnts w va a) (hb:IsEnts w vb b) (hla:a.length≤9223372036854775807) (hlb:b.length≤9223372036854775807) :
   Calls Tryz.prog 102 #[va,vb] w fun r w'=>r=.returned (.bool (covB a b))∧Below w.heap.size w w':=by
 have HVA:=Lib.hid ha
 have HVB:=Lib.hid hb
 have HLA:=Lib.hid hla
 have HLB:=Lib.hid hlb
 obtain ⟨aa,ca,rfl,_⟩:=ha.form
 obtain ⟨ab,cb,rfl,fb⟩:=hb.form
 have FB:=Lib.hid fb
 obtain ⟨na,hna⟩:∃ n,n=a.length:=⟨_,rfl⟩
 obtain ⟨nb,hnb⟩:∃ n,n=b.length:=⟨_,rfl⟩
 have HNB:=Lib.hid hnb
 rw [←hna] at HVA ⊢
 rw [←hnb] at HVB ⊢
 clear ha hb hla hlb fb hna hnb
 by_cases h1:(vrightF a).1=0
 · by_cases h2:(vrightF b).1=0
   · have H1:=Lib.hid h1
     have H2:=Lib.hid h2
     have HC:Hid (covB a b=covA a b):=Lib.hid (show covB a b=covA a b by unfold covB;rw [h1,h2];simp)
     have h16:nb≤16:=by rw [HNB.out];exact ((vright_ok b).1 h2).1
     clear h1 h2
     rw [HC.out]
     go_enter Tryz.func102,Tryz.ntmps102
     go_wp2_with fail
     refine (vright_any _ a _ HVA.out HLA.out).mono ?_
     rintro r w1 ⟨err,rfl,hat,hb1⟩
     obtain rfl:=hat.nil H1.out
     have HB1:=Lib.hid hb1
     clear hat hb1
     go_wp2_with fail
     refine (vright_any _ b _ (HVB.out.below HB1.out) HLB.out).mono ?_
     rintro r w2 ⟨err,rfl,hat,hb2⟩
     obtain rfl:=hat.nil H2.out
     have HB2:Hid (Below w.heap.size w w2):=HB1.out.trans (hb2.mono HB1.out.size)
     clear hat hb2
     go_wp2
     go_loopw [17] (fun i wr=>∃ k:Nat,k≤nb∧i=.int .i64 k∧covA a b=covA a (b.drop k)∧Below w.heap.size w wr) (fun i _=>nb - (intOf i).toNat)
     case atStart=>exact ⟨0,by omega,rfl,rfl,HB2.out⟩
     case round =>
       obtain ⟨k,hk,rfl,heq,hbel⟩:=hrel
       have HEQ:=Lib.hid heq
       have HB:=Lib.hid hbel
       have hzr:=hbel.size
       clear heq hbel
       by_cases hlt:k < nb
       · obtain ⟨t, ht⟩ : ∃ t, b[k]? = some t := ⟨b[k]'(by have := HNB.out; omega), List.getElem?_eq_getElem _⟩
         obtain ⟨b1,o1,rfl,hb1,p0,p1⟩:=FB.out k t ht
         have hd:=covA_drop (a:=a) ht
         obtain ⟨rep,time⟩:=t
         simp only at p0 p1 hd
         have q0:=(HB.out.cell (p:=⟨b1,o1 + k * 2,none⟩) hb1).trans p0
         have q1:=(HB.out.cell (p:=⟨b1,o1 + k * 2 + 1,none⟩) hb1).trans p1
         obtain ⟨x,hx⟩:∃ x,ofF a rep=x:=⟨_,rfl⟩
         rw [hx] at hd
         have HX:=Lib.hid hx
         have HV1:Hid (IsEnts (wr.alloc (.cells #[.int .i64 rep,.int .i64 time] 80)).drew (.slice aa na ca) a):=Lib.hid (((HVA.out.below HB.out).alloc _).drewN 1)
         have c0:(wr.alloc (.cells #[.int .i64 rep,.int .i64 time] 80)).cell? ⟨wr.heap.size,0,none⟩=some (.int .i64 rep)∧(wr.alloc (.cells #[.int .i64 rep,.int .i64 time] 80)).cell? ⟨wr.heap.size,1,none⟩=some (.int .i64 time):=by simp
         by_cases hlx:x < time
         · have HW:Hid (covA a b=false):=Lib.hid (show covA a b=false by rw [HEQ.out,hd,decide_eq_false (by omega),Bool.false_and])
           clear p0 p1 ht hd hx
           go_wp2
           go_region_held3 (fun w'=>w'.cell? ⟨wr.heap.size,0,none⟩=some (.int .i64 rep)∧w'.cell? ⟨wr.heap.size,1,none⟩=some (.int .i64 time)) (first | exact c0 | exact c2) (first | (go_at_call 156;((with_reducible refine (vof_as _ a rep x _ HV1.out HLA.out HX.out).mono ?_);rintro r w2 ⟨rfl,hb2⟩;have c2:w2.cell? ⟨wr.heap.size,0,none⟩=some (.int .i64 rep)∧w2.cell? ⟨wr.heap.size,1,none⟩=some (.int .i64 time):=⟨(hb2.cell (by simp)).trans c0.1,(hb2.cell (by simp)).trans c0.2⟩;have HB2:Hid (Below w.heap.size w w2):=((HB.out.alloc hzr _).drew.trans (hb2.mono (by simp;omega)));clear hb2)))
           go_wp2
           go_ret
           exact ⟨by rw [HW.out];rfl,HB2.out⟩
         · have HW:Hid (covA a b=covA a (b.drop (k + 1))):=Lib.hid (show covA a b=covA a (b.drop (k + 1)) by rw [HEQ.out,hd,decide_eq_true (by omega),Bool.true_and])
           clear p0 p1 ht hd hx
           go_wp2
           go_region_held3 (fun w'=>w'.cell? ⟨wr.heap.size,0,none⟩=some (.int .i64 rep)∧w'.cell? ⟨wr.heap.size,1,none⟩=some (.int .i64 time)) (first | exact c0 | exact c2) (first | (go_at_call 156;((with_reducible refine (vof_as _ a rep x _ HV1.out HLA.out HX.out).mono ?_);rintro r w2 ⟨rfl,hb2⟩;have c2:w2.cell? ⟨wr.heap.size,0,none⟩=some (.int .i64 rep)∧w2.cell? ⟨wr.heap.size,1,none⟩=some (.int .i64 time):=⟨(hb2.cell (by simp)).trans c0.1,(hb2.cell (by simp)).trans c0.2⟩;have HB2:Hid (Below w.heap.size w w2):=((HB.out.alloc hzr _).drew.trans (hb2.mono (by simp;omega)));clear hb2)))
           go_wp2
           go_roundw
           case rel=>exact ⟨k + 1,by omega,by go_num,HW.out,HB2.out⟩
           case measure=>simp [intOf];omega
       · have HW:Hid (covA a b=true):=Lib.hid (show covA a b=true by rw [HEQ.out,List.drop_eq_nil_of_le (by have:=HNB.out;omega)];rfl)
         go_wp2
         go_ret
         exact ⟨by rw [HW.out];rfl,HB.out⟩
   · have H1:=Lib.hid h1
     have H2:=Lib.hid h2
     have HC:Hid (covB a b=false):=Lib.hid (show covB a b=false by unfold covB;rw [decide_eq_false h2];simp)
     clear h1 h2
     rw [HC.out]
     go_enter Tryz.func102,Tryz.ntmps102
     go_wp2_with fail
     refine (vright_any _ a _ HVA.out HLA.out).mono ?_
     rintro r w1 ⟨err,rfl,hat,hb1⟩
     obtain rfl:=hat.nil H1.out
     have HB1:=Lib.hid hb1
     clear hat hb1
     go_wp2_with fail
     refine (vright_any _ b _ (HVB.out.below HB1.out) HLB.out).mono ?_
     rintro r w2 ⟨err,rfl,hat,hb2⟩
     obtain ⟨t,u,rfl⟩:=hat.iface H2.out
     have HB2:Hid (Below w.heap.size w w2):=HB1.out.trans (hb2.mono HB1.out.size)
     clear hat hb2
     go_wp2
     go_ret
     exact ⟨rfl,HB2.out⟩
 · have H1:=Lib.hid h1
   have HC:Hid (covB a b=false):=Lib.hid (show covB a b=false by unfold covB;rw [decide_eq_false h1];simp)
   clear h1
   rw [HC.out]
   go_enter Tryz.func102,Tryz.ntmps102
   go_wp2_with fail
   refine (vright_any _ a _ HVA.out HLA.out).mono ?_
   rintro r w1 ⟨err,rfl,hat,hb1⟩
   obtain ⟨t,u,rfl⟩:=hat.iface H1.out
   have HB1:=Lib.hid hb1
   clear hat hb1
   go_wp2
   go_ret
   exact ⟨rfl,HB1.out⟩
end Go.Proofs.YtgfinhehgfbdgaaGreatDoor
namespace Go.Proofs.YtgfinhehgfbdgaaGreatDoor
open Go.RowKit
theorem ext_dropV (s:ByteArray) (a:Nat):(s.extract a s.size).data.toList=s.data.toList.drop a:=by
 rw [ext_data,List.take_of_length_le (by rw [←size_data];exact Nat.le_refl _)]
theorem vint_bad (s:ByteArray) (most:Int) (w:World) (hs:s.size≤maxLen) (h0 : -9223372036854775808≤most) (h1:most≤9223372036854775807) (e:Nat) (h:intL s.data.toList most=(0,0,e)) (he:e≠0) :
   Calls Tryz.prog 96 #[.string s,.int .i64 most] w fun r w'=>r=.returned (.tuple #[.int .i64 0,.int .i64 0,.iface 27 (.int .i64 (e:Nat))])∧w=w' :=
 (int_any s most w hs h0 h1).mono fun r w' ⟨h1,h2⟩=>⟨h1.trans (by rw [h];unfold intV errV;rw [if_neg he];rfl),h2⟩
theorem vint_ok (s:ByteArray) (most:Int) (w:World) (hs:s.size≤maxLen) (h0 : -9223372036854775808≤most) (h1:most≤9223372036854775807) (n k:Nat) (h:intL s.data.toList most=(n,k,0)) :
   Calls Tryz.prog 96 #[.string s,.int .i64 most] w fun r w'=>r=.returned (.tuple #[.int .i64 n,.int .i64 k,.nilIface])∧w=w' :=
 (int_any s most w hs h0 h1).mono fun r w' ⟨h1,h2⟩=>⟨h1.trans (by rw [h];rfl),h2⟩
def VGetIs (w:World) (r:Nat ⊕ (List Ent×Nat)) (e:Ending) (w':World):Prop :=
 match r with
 | .inl er=>e=.returned (.tuple #[.slice none 0 0,.int .i64 0,.iface 27 (.int .i64 (er:Nat))])∧Below w.heap.size w w'
 | .inr (run,k)=>∃ v,e=.returned (.tuple #[v,.int .i64 (k:Nat),.nilIface])∧ownsE w' w.heap.size v run∧Below w.heap.size w w'
theorem vget_bad {w:World} {x:Nat ⊕ (List Ent×Nat)} {er:Nat} (h:x=.inl er) (w':World) (hb:Below w.heap.size w w'):VGetIs w x (.returned (.tuple #[.slice none 0 0,.int .i64 0,.iface 27 (.int .i64 (er:Nat))])) w':=by
 rw [h];exact ⟨rfl,hb⟩
theorem vget_good {w:World} {x:Nat ⊕ (List Ent×Nat)} {run:List Ent} {k:Nat} (h:x=.inr (run,k)) (v:Value) (w':World) (ho:ownsE w' w.heap.size v run) (hb:Below w.heap.size w w'):VGetIs w x (.returned (.tuple #[v,.int .i64 (k:Nat),.nilIface])) w':=by
 rw [h];exact ⟨v,rfl,ho,hb⟩
theorem idx2_0 (w:World):(Instr.index 253 (.agg #[.int .i64 200,.int .i64 16]) (.int .i64 0)).run Tryz.prog w=.ok (.int .i64 200) w:=by kernel_rfl
theorem idx2_1 (w:World):(Instr.index 253 (.agg #[.int .i64 200,.int .i64 16]) (.int .i64 1)).run Tryz.prog w=.ok (.int .i64 16) w:=by kernel_rfl
def HD (w wr:World) (g c:Int):Prop:=wr.heap[w.heap.size]? = some (.cells #[.int .i64 g,.int .i64 c] 253 (0,0))∧Below w.heap.size w wr
theorem HD.start (w:World):HD w (w.alloc (.cells #[.int .i64 0,.int .i64 0] 253)) 0 0:=⟨heap_alloc_new _ _,(Below.refl _ _).alloc (Nat.le_refl _) _⟩
theorem HD.lt {w wr:World} {g c:Int} (h:HD w wr g c):w.heap.size < wr.heap.size:=(Array.getElem?_eq_some_iff.1 h.1).1
theorem HD.cells {w wr:World} {g c:Int} (h:HD w wr g c):wr.cell? ⟨w.heap.size,0,none⟩=some (.int .i64 g)∧wr.cell? ⟨w.heap.size,1,none⟩=some (.int .i64 c)∧wr.frozen? ⟨w.heap.size,0,none⟩=false∧wr.frozen? ⟨w.heap.size,1,none⟩=false :=
 ⟨cell_of_row _ _ 0 _ _ (0,0) h.1,cell_of_row _ _ 1 _ _ (0,0) h.1,frozen_of_row _ _ _ _ _ h.1,frozen_of_row _ _ _ _ _ h.1⟩
theorem HD.set0 {w wr:World} {g c:Int} (h:HD w wr g c) (x:Int):HD w (wr.setCell ⟨w.heap.size,0,none⟩ (.int .i64 x)) x c:=⟨by rw [heap_setCell_same _ _ _ _ _ _ h.1];rfl,h.2.setCell (Nat.le_refl _) _⟩
theorem HD.set1 {w wr:World} {g c:Int} (h:HD w wr g c) (x:Int):HD w (wr.setCell ⟨w.heap.size,1,none⟩ (.int .i64 x)) g x:=⟨by rw [heap_setCell_same _ _ _ _ _ _ h.1];rfl,h.2.setCell (Nat.le_refl _) _⟩
def HL (s:List UInt8) (w:World) (k a:Nat) (wr:World):Prop :=
 (k=0∧a=0∧HD w wr 0 0) ∨
 (k=1∧∃ g,intL s 200=(g,a,0)∧a≤s.length∧HD w wr (g:Nat) 0) ∨
 (k=2∧∃ g j c i,a=j + i∧j + i≤s.length∧g≤200∧c≤16∧intL s 200=(g,j,0)∧intL (s.drop j) 16=(c,i,0)∧HD w wr (g:Nat) (c:Nat))
set_option maxRecDepth 100000 in
set_option maxHeartbeats 4000000 in
theorem vget_any (s:ByteArray) (least:Int) (w:World) (hs:s.size≤1000000) (hl0:0≤least) (hl1:least≤1000000) :
   Calls Tryz.prog 184 #[.string s,.int .i64 least] w (VGetIs w (getR s.data.toList 0 least [])):=by
 have i0:=idx2_0
 have i1:=idx2_1
 have hsl:s.data.toList.length=s.size:=(size_data s).symm
 have HSL:=Lib.hid hsl
 clear hsl
 go_enter Tryz.func184,Tryz.ntmps184
 go_wp2
 go_loopw [7,20] (fun av i wr=>∃ k a:Nat,k≤2∧i=.int .i64 k∧av=.int .i64 a∧HL s.data.toList w k a wr) (fun _ i _=>2 - (intOf i).toNat)
 case atStart=>exact ⟨0,0,by omega,rfl,rfl,.inl ⟨rfl,rfl,HD.start w⟩⟩
 case round =>
   obtain ⟨k,a,hk,rfl,rfl,hh⟩:=hrel
   have HM:Hid ((s.extract a s.size).size≤maxLen):=Lib.hid (show (s.extract a s.size).size≤maxLen by rw [ByteArray.size_extract];unfold maxLen;omega)
   have HE:=Lib.hid (ext_dropV s a)
   have d3:(0:Int)≤(a:Int):=by omega
   rcases hh with ⟨rfl,ha,hd⟩ | ⟨rfl,g,hg,hal,hd⟩ | ⟨rfl,g,j,c,i,ha,hji,hg2,hc2,hg,hc,hd⟩
   · have HDD:=Lib.hid hd
     obtain ⟨c0,c1,y0,y1⟩:=hd.cells
     have hz:=hd.lt
     have HA:=Lib.hid ha
     have d4:(a:Int)≤(s.size:Int):=by omega
     clear hd ha
     rcases intL_cases s.data.toList 200 with ⟨e,hi,he,_⟩ | ⟨n,j,hi,hn,hj1,hj2,hj3,_⟩
     · have HI:Hid (intL (s.extract a s.size).data.toList 200=(0,0,e)):=Lib.hid (show intL (s.extract a s.size).data.toList 200=(0,0,e) by rw [HE.out,HA.out];exact hi)
       have HR:=Lib.hid (getR_gap (used:=0) (least:=least) (acc:=[]) hi he)
       have HNE:=Lib.hid he
       clear hi he
       go_wp2_with fail
       refine (vint_bad _ 200 _ HM.out (by decide) (by decide) e HI.out HNE.out).mono ?_
       rintro r w' ⟨rfl,rfl⟩
       go_wp2
       go_ret3
       exact vget_bad HR.out _ HDD.out.2
     · have HI:Hid (intL (s.extract a s.size).data.toList 200=(n,j,0)):=Lib.hid (show intL (s.extract a s.size).data.toList 200=(n,j,0) by rw [HE.out,HA.out];exact hi)
       have HI2:=Lib.hid hi
       have hj4:j≤s.size:=by rw [←HSL.out];exact hj3
       have HJ3:=Lib.hid hj3
       have eaj:(a:Int) + (j:Int)=(j:Int):=by have:=HA.out;omega
       clear hi hj3
       go_wp2_with fail
       refine (vint_ok _ 200 _ HM.out (by decide) (by decide) n j HI.out).mono ?_
       rintro r w' ⟨rfl,rfl⟩
       go_wp2
       go_roundw
       case rel=>exact ⟨1,j,by omega,rfl,rfl,.inr (.inl ⟨rfl,n,HI2.out,HJ3.out,HDD.out.set0 _⟩)⟩
       case measure=>simp [intOf]
   · have HDD:=Lib.hid hd
     obtain ⟨c0,c1,y0,y1⟩:=hd.cells
     have hz:=hd.lt
     have HG:=Lib.hid hg
     have hg2:(g:Int)≤200:=by
       rcases intL_cases s.data.toList 200 with ⟨e,hi,he,_⟩ | ⟨n,j,hi,hn,_⟩
       · rw [hg] at hi;simp only [Prod.mk.injEq] at hi;exact absurd hi.2.2.symm he
       · rw [hg] at hi;simp only [Prod.mk.injEq] at hi;omega
     have has:a≤s.size:=by rw [←HSL.out];exact hal
     have d4:(a:Int)≤(s.size:Int):=by omega
     clear hd hg hal
     rcases intL_cases (s.data.toList.drop a) 16 with ⟨e,hi,he,_⟩ | ⟨n,j,hi,hn,hj1,hj2,hj3,_⟩
     · have HI:Hid (intL (s.extract a s.size).data.toList 16=(0,0,e)):=Lib.hid (show intL (s.extract a s.size).data.toList 16=(0,0,e) by rw [HE.out];exact hi)
       have HR:=Lib.hid (getR_many (used:=0) (least:=least) (acc:=[]) HG.out hi he)
       have HNE:=Lib.hid he
       clear hi he
       go_wp2_with fail
       refine (vint_bad _ 16 _ HM.out (by decide) (by decide) e HI.out HNE.out).mono ?_
       rintro r w' ⟨rfl,rfl⟩
       go_wp2
       go_ret3
       exact vget_bad HR.out _ HDD.out.2
     · have HI:Hid (intL (s.extract a s.size).data.toList 16=(n,j,0)):=Lib.hid (show intL (s.extract a s.size).data.toList 16=(n,j,0) by rw [HE.out];exact hi)
       have HI2:=Lib.hid hi
       rw [List.length_drop,HSL.out] at hj3
       have HJ3:Hid (a + j≤s.data.toList.length):=Lib.hid (show a + j≤s.data.toList.length by rw [HSL.out];omega)
       have hn16:n≤16:=by omega
       have hg200:g≤200:=by omega
       clear hi
       go_wp2_with fail
       refine (vint_ok _ 16 _ HM.out (by decide) (by decide) n j HI.out).mono ?_
       rintro r w' ⟨rfl,rfl⟩
       go_wp2
       go_roundw
       case rel=>exact ⟨2,a + j,by omega,rfl,by go_num,.inr (.inr ⟨rfl,g,a,n,j,rfl,HJ3.out,hg200,hn16,HG.out,HI2.out,HDD.out.set1 _⟩)⟩
       case measure=>simp [intOf]
   · have HDD:=Lib.hid hd
     obtain ⟨c0,c1,y0,y1⟩:=hd.cells
     have HR:=Lib.hid (getR_ok (used:=0) (least:=least) (acc:=[]) hg hc)
     have HA:=Lib.hid ha
     have has:a≤s.size:=by rw [←HSL.out,ha];exact hji
     have HST:Hid (getR s.data.toList 0 least []=tmA (c + 1) (s.data.toList.drop a) a (least + g) []):=Lib.hid (show getR s.data.toList 0 least []=tmA (c + 1) (s.data.toList.drop a) a (least + g) [] by
       rw [HR.out,ha,List.drop_drop,Nat.zero_add])
     have eg:0≤least + (g:Int):=by omega
     have eg2:least + (g:Int)≤1000200:=by omega
     have hz:=hd.lt
     clear hd ha hg hc hji
     rw [show ((2:Nat):Int)=2 from rfl]
     go_wp2
     go_loopw [7,14,46] (fun av rv i wr=>∃ (m b:Nat) (acc:List Ent),m≤c + 1∧i=.int .i64 m∧av=.int .i64 b∧b≤s.size∧acc.length=m∧getR s.data.toList 0 least []=tmA (c + 1 - m) (s.data.toList.drop b) b (least + g + m) acc∧ownsE wr (w.heap.size + 1) rv acc∧HD w wr g c) (fun _ _ i _=>c + 1 - (intOf i).toNat)
     case atStart=>exact ⟨0,a,[],by omega,rfl,rfl,has,rfl,by simpa using HST.out,ownsE_nil _ _,HDD.out⟩
     case round =>
       obtain ⟨m,b,acc,hm,rfl,rfl,hbs,hal,heq,ho,hd⟩:=hrel
       have HEQ:=Lib.hid heq
       have HO:=Lib.hid ho
       have HDJ:=Lib.hid hd
       have HAL:=Lib.hid hal
       obtain ⟨z0,z1,_,_⟩:=hd.cells
       have hz2:=hd.lt
       have HMB:Hid ((s.extract b s.size).size≤maxLen):=Lib.hid (show (s.extract b s.size).size≤maxLen by rw [ByteArray.size_extract];unfold maxLen;omega)
       have HEB:=Lib.hid (ext_dropV s b)
       have e3:(0:Int)≤(b:Int):=by omega
       have e4:(b:Int)≤(s.size:Int):=by omega
       clear heq ho hd hal c0 c1 y0 y1
       by_cases hlt:m < c + 1
       · have hlt':(m:Int) < (c:Int) + 1:=by omega
         obtain ⟨c',hc'⟩:∃ c',c + 1 - m=c' + 1:=⟨c - m,by omega⟩
         rcases intL_cases (s.data.toList.drop b) 1099511627776 with ⟨e,hi,he,_⟩ | ⟨n,j,hi,hn,hj1,hj2,hj3,_⟩
         · have HI:Hid (intL (s.extract b s.size).data.toList 1099511627776=(0,0,e)):=Lib.hid (show intL (s.extract b s.size).data.toList 1099511627776=(0,0,e) by rw [HEB.out];exact hi)
           have HRB:Hid (getR s.data.toList 0 least []=.inl e):=Lib.hid (show getR s.data.toList 0 least []=.inl e by rw [HEQ.out,hc',tmA_bad hi he])
           have HNE:=Lib.hid he
           clear hi he hc'
           go_wp2_with fail
           refine (vint_bad _ 1099511627776 _ HMB.out (by decide) (by decide) e HI.out HNE.out).mono ?_
           rintro r w' ⟨rfl,rfl⟩
           go_wp2
           go_ret3
           exact vget_bad HRB.out _ HDJ.out.2
         · have HI:Hid (intL (s.extract b s.size).data.toList 1099511627776=(n,j,0)):=Lib.hid (show intL (s.extract b s.size).data.toList 1099511627776=(n,j,0) by rw [HEB.out];exact hi)
           have HRB:Hid (getR s.data.toList 0 least []=tmA (c + 1 - (m + 1)) (s.data.toList.drop (b + j)) (b + j) (least + g + ((m + 1:Nat):Int)) (acc ++ [⟨least + g + m,n⟩])):=Lib.hid (show getR s.data.toList 0 least []=tmA (c + 1 - (m + 1)) (s.data.toList.drop (b + j)) (b + j) (least + g + ((m + 1:Nat):Int)) (acc ++ [⟨least + g + m,n⟩]) by
             rw [HEQ.out,hc',tmA_ok hi,List.drop_drop,show c + 1 - (m + 1)=c' by omega]
             congr 1;omega)
           rw [List.length_drop,HSL.out] at hj3
           obtain ⟨y,hy⟩:∃ y,y=least + (g:Int) + (m:Int):=⟨_,rfl⟩
           rw [←hy] at HRB
           have hyb:0≤y∧y≤1000300:=by omega
           have ey:least + (g:Int) + (m:Int)=y:=hy.symm
           obtain ⟨acc2,hacc⟩:∃ acc2,acc ++ [(⟨y,(n:Int)⟩:Ent)]=acc2:=⟨_,rfl⟩
           have HAC:=Lib.hid hacc
           rw [hacc] at HRB
           have HAL2:Hid (acc2.length=m + 1):=Lib.hid (show acc2.length=m + 1 by rw [←hacc,List.length_append,HAL.out];rfl)
           clear hi hc' hy hacc
           go_wp2_with fail
           refine (vint_ok _ 1099511627776 _ HMB.out (by decide) (by decide) n j HI.out).mono ?_
           rintro r w' ⟨rfl,rfl⟩
           go_wp2_with (at_builtin;refine wpList_append_ent rfl _ _ rfl (w.heap.size + 1) _ acc rfl (HO.out.alloc _) _ 1 rfl ⟨y,n⟩ ?c1 ?c2 ?c3 ?_)
           case c1=>exact entBlk_new _ _ _
           case c2=>have:=HAL.out;omega
           case c3=>simp;omega
           · intro gg cap w3 ho3 hg3
             rw [HAC.out,HAL.out] at ho3
             have HO3:=Lib.hid ho3
             have HD3:Hid (HD w w3 g c):=Lib.hid (show HD w w3 g c from ⟨by
               rw [hg3.block _ (by simp;omega) (fun e=>by have:=(HO.out.lt w.heap.size e.symm).1;omega),Below.heap_alloc _ _ _ hz2]
               exact HDJ.out.1,(HDJ.out.2.alloc (Nat.le_of_lt hz2) _).grown hg3 (by simp;omega) (fun k hk=>by have:=(HO.out.lt k hk).1;omega)⟩)
             clear ho3 hg3
             have hal3:=HAL.out
             rw [hal3]
             clear hal3
             go_wp2
             go_roundw
             case rel=>exact ⟨m + 1,b + j,acc2,by omega,by go_num,by go_num,by omega,HAL2.out,HRB.out,HO3.out,HD3.out⟩
             case measure=>simp [intOf];omega
       · have hme:m=c + 1:=by omega
         have HRE:Hid (getR s.data.toList 0 least []=.inr (acc,b)):=Lib.hid (show getR s.data.toList 0 least []=.inr (acc,b) by
           rw [HEQ.out,hme,Nat.sub_self];rfl)
         have hlt':(c:Int) + 1≤(m:Int):=by omega
         clear hme
         go_wp2
         go_ret3
         exact vget_good HRE.out _ _ (HO.out.mono (Nat.le_succ _)) HDJ.out.2
end Go.Proofs.YtgfinhehgfbdgaaGreatDoor
