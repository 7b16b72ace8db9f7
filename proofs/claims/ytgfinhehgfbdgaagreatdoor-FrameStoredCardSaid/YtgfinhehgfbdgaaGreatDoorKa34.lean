import Derived.Test.YtgfinhehgfbdgaaGreatDoorKa12
import Derived.Test.YtgfinhehgfbdgaaGreatDoorKa31
import Derived.Lib.Hide
import Derived.Outline
import Derived.Test.YtgfinhehgfbdgaaGreatDoorKa32
import Derived.Test.YtgfinhehgfbdgaaGreatDoorKa27
import Derived.Test.YtgfinhehgfbdgaaGreatDoorProg
import Derived.WalkKit
import Derived.Handy
import Derived.KernelRfl
import Derived.Below
import Derived.Deep.RegionHeld3
import Derived.RegionTactic
import Derived.Deep.QuietTactic
import Derived.Test.YtgfinhehgfbdgaaGreatDoorKa14
import Derived.Laws.Rows
import Derived.Test.YtgfinhehgfbdgaaGreatDoorKa33
import Derived.Test.YtgfinhehgfbdgaaGreatDoorKa24
namespace Go.Proofs.YtgfinhehgfbdgaaGreatDoor
open Go.RowKit
set_option maxRecDepth 100000 in
set_option maxHeartbeats 4000000 in
theorem bigK_any (vf vh vw:Value) (f h:List Ent) (l:List Wr) (w:World) (hx:BatIs w vf vh vw f h l) :
   Calls Tryz.prog 26 #[.agg #[vf,vh,vw]] w fun e w'=>e=.returned (.bool (bigV 200 f h l))∧Below w.heap.size w w':=by
 obtain ⟨hf,hh,hv,hlf,hlh,hlw,hok⟩:=hx
 obtain ⟨af,cf,rfl,_⟩:=hf.form
 obtain ⟨ah,ch,rfl,_⟩:=hh.form
 obtain ⟨aw,cw,rfl,fw⟩:=hv.form
 have FW:=Lib.hid fw
 obtain ⟨nf,hnf⟩:∃ n,n=f.length:=⟨_,rfl⟩
 obtain ⟨nh,hnh⟩:∃ n,n=h.length:=⟨_,rfl⟩
 obtain ⟨n,hn⟩:∃ n,n=l.length:=⟨_,rfl⟩
 rw [←hnf,←hnh,←hn]
 rw [←hn] at hlw
 have HN:=Lib.hid hn
 have hbv:bigV 200 f h l=decide (200 < bigS (IntKind.i64.wrap (IntKind.i64.wrap ((nf:Int) + (nh:Int)) + (n:Int))) l):=by rw [hnf,hnh,hn];rfl
 obtain ⟨s1,hs1⟩:∃ s,IntKind.i64.wrap ((nf:Int) + (nh:Int))=s:=⟨_,rfl⟩
 obtain ⟨s2,hs2⟩:∃ s,IntKind.i64.wrap (s1 + (n:Int))=s:=⟨_,rfl⟩
 rw [hs1,hs2] at hbv
 have HBV:=Lib.hid hbv
 clear hf hh hv hlf hlh hnf hnh hn fw hok hbv
 go_enter Tryz.func26,Tryz.ntmps26
 go_wp2
 clear hs1 hs2
 go_loopw [3,20] (fun s i wr=>∃ (x:Int) (k:Nat),s=.int .i64 x∧k≤n∧i=.int .i64 k∧bigS s2 l=bigS x (l.drop k)∧Below w.heap.size w wr) (fun _ i _=>n - (intOf i).toNat)
 case atStart=>exact ⟨_,0,rfl,by omega,rfl,rfl,(Below.refl _ _).alloc (Nat.le_refl _) _⟩
 case round =>
   obtain ⟨x,k,rfl,hk,rfl,heq,hbel⟩:=hrel
   have HEQ:=Lib.hid heq
   clear heq
   have HB:=Lib.hid hbel
   have hzr:=hbel.size
   clear hbel
   by_cases hlt:k < n
   · obtain ⟨t, ht⟩ : ∃ t, l[k]? = some t := ⟨l[k]'(by have := HN.out; omega), List.getElem?_eq_getElem _⟩
     obtain ⟨b1,o1,rfl,hb1,p0,p1,p2,p3,p4,p5⟩:=FW.out k t ht
     have q0:=(HB.out.cell (p:=⟨b1,o1 + k * 6,none⟩) hb1).trans p0
     have q1:=(HB.out.cell (p:=⟨b1,o1 + k * 6 + 1,none⟩) hb1).trans p1
     have q2:=(HB.out.cell (p:=⟨b1,o1 + k * 6 + 2,none⟩) hb1).trans p2
     have q3:=(HB.out.cell (p:=⟨b1,o1 + k * 6 + 3,none⟩) hb1).trans p3
     have q4:=(HB.out.cell (p:=⟨b1,o1 + k * 6 + 4,none⟩) hb1).trans p4
     have q5:=(HB.out.cell (p:=⟨b1,o1 + k * 6 + 5,none⟩) hb1).trans p5
     have hd:=bigS_drop x ht
     obtain ⟨T,R,K,key,val,N⟩:=t
     simp only at q0 q1 q2 q3 q4 q5 hd
     obtain ⟨u,hu⟩:∃ u,IntKind.i64.wrap ((key.size:Int) + (val.size:Int))=u:=⟨_,rfl⟩
     obtain ⟨y,hy⟩:∃ y,IntKind.i64.wrap (u.tdiv 8)=y:=⟨_,rfl⟩
     obtain ⟨z,hz⟩:∃ z,IntKind.i64.wrap (x + y)=z:=⟨_,rfl⟩
     rw [hu,hy,hz] at hd
     have HD:Hid (bigS s2 l=bigS z (l.drop (k + 1))):=Lib.hid (HEQ.out.trans hd)
     clear hd
     clear p0 p1 p2 p3 p4 p5 ht
     go_wp2
     go_roundw
     case rel=>exact ⟨_,k + 1,rfl,by omega,by go_num,HD.out,HB.out.alloc hzr _⟩
     case measure=>simp [intOf];omega
   · have HD:Hid (bigV 200 f h l=decide (200 < x)):=Lib.hid (by rw [HBV.out,HEQ.out,List.drop_eq_nil_of_le (by have:=HN.out;omega)];rfl)
     go_wp2
     go_ret
     exact ⟨by rw [HD.out];rfl,HB.out⟩
theorem bigK_as (vf vh vw:Value) (f h:List Ent) (l:List Wr) (c:Bool) (w:World) (hx:BatIs w vf vh vw f h l) (hc:bigV 200 f h l=c) :
   Calls Tryz.prog 26 #[.agg #[vf,vh,vw]] w fun e w'=>e=.returned (.bool c)∧Below w.heap.size w w':=by
 subst hc;exact bigK_any vf vh vw f h l w hx
theorem brightB (vf vh vw:Value) (f h:List Ent) (l:List Wr) (w:World) (hx:BatIs w vf vh vw f h l) (hg:errT w) :
   Calls Tryz.prog 23 #[.agg #[vf,vh,vw]] w (VRightIs w (batF f h l)) :=
 bright_any vf vh vw f h l w hx.1 hx.2.1 hx.2.2.1 hx.2.2.2.1 hx.2.2.2.2.1 hx.2.2.2.2.2.2 hg
set_option maxRecDepth 100000 in
set_option maxHeartbeats 4000000 in
theorem held_any (vf vh vw:Value) (f h:List Ent) (l:List Wr) (w:World) (hx:BatIs w vf vh vw f h l) (hg:errT w) :
   Calls Tryz.prog 29 #[.agg #[vf,vh,vw]] w fun e w'=>∃ c,e=.returned (.bool c)∧(c=true→rightB f h l)∧Below w.heap.size w w':=by
 have HX:=Lib.hid hx
 have HG:=Lib.hid hg
 obtain ⟨hf,hh,hv,_⟩:=hx
 obtain ⟨af,cf,rfl,_⟩:=hf.form
 obtain ⟨ah,ch,rfl,_⟩:=hh.form
 obtain ⟨aw,cw,rfl,_⟩:=hv.form
 have HA:=Lib.hid (batAt_new w (.slice af f.length cf) (.slice ah h.length ch) (.slice aw l.length cw) 25)
 have HW0:Hid (Below w.heap.size w (w.alloc (.cells #[.slice af f.length cf,.slice ah h.length ch,.slice aw l.length cw] 25))):=Lib.hid ((Below.refl _ _).alloc (Nat.le_refl _) _)
 have HZ:Hid (w.heap.size < (w.alloc (.cells #[.slice af f.length cf,.slice ah h.length ch,.slice aw l.length cw] 25)).heap.size):=Lib.hid (by simp)
 generalize f.length=nf at HX HA HW0 HZ ⊢
 generalize h.length=nh at HX HA HW0 HZ ⊢
 generalize l.length=n at HX HA HW0 HZ ⊢
 clear hf hh hv hg
 go_enter Tryz.func29,Tryz.ntmps29
 go_wp2_with fail
 generalize w.alloc (.cells #[.slice af nf cf,.slice ah nh ch,.slice aw n cw] 25)=W at HA HW0 HZ ⊢
 obtain ⟨c,hc⟩:∃ c,bigV 200 f h l=c:=⟨_,rfl⟩
 refine (bigK_as _ _ _ f h l c _ (HX.out.below HW0.out) hc).mono ?_
 clear hc
 rintro r w1 ⟨rfl,hb1⟩
 have HB1:Hid (Below w.heap.size w w1):=Lib.hid (HW0.out.trans (hb1.mono HW0.out.size))
 obtain ⟨d0,d1,d2⟩:=HA.out.below hb1 HZ.out
 clear hb1
 cases c with
 | true =>
   go_wp2
   go_ret
   exact ⟨_,rfl,(fun hq=>by cases hq),HB1.out⟩
 | false =>
   go_wp2_with fail
   refine (brightB _ _ _ f h l _ (HX.out.below HB1.out) (HG.out.below HB1.out)).mono ?_
   rintro r w2 ⟨err,rfl,hat,hb2⟩
   have HB2:Hid (Below w.heap.size w w2):=HB1.out.trans (hb2.mono HB1.out.size)
   clear hb2 d0 d1 d2
   by_cases h0:(batF f h l).1=0
   · have H0:=Lib.hid h0
     obtain rfl:=hat.nil h0
     clear hat h0
     go_wp2
     go_ret
     exact ⟨_,rfl,fun _=>H0.out,HB2.out⟩
   · obtain ⟨t,u,rfl⟩:=hat.iface h0
     clear hat h0
     go_wp2
     go_ret
     exact ⟨_,rfl,(fun hq=>by simp at hq),HB2.out⟩
end Go.Proofs.YtgfinhehgfbdgaaGreatDoor
namespace Go.Proofs.YtgfinhehgfbdgaaGreatDoor
open Go.RowKit
theorem place_hit {h:List Ent} {r:Int} {k:Nat} {e:Ent} (hk:h[k]? = some e) (hle:k≤placeF h r) (he:e.rep=r):placeF h r=k:=by
 obtain ⟨hl,hx⟩:=List.getElem?_eq_some_iff.1 hk
 refine Nat.le_antisymm (Nat.not_lt.1 fun hlt=>?_) hle
 have h2 : ¬ (decide ((h[k]'hl).rep = r) = true) := by simpa using List.not_of_lt_findIdx hlt
 exact h2 (by rw [hx];simpa using he)
theorem place_miss {h:List Ent} {r:Int} {k:Nat} {e:Ent} (hk:h[k]? = some e) (hle:k≤placeF h r) (he:e.rep≠r):k + 1≤placeF h r:=by
 obtain ⟨hl,hx⟩:=List.getElem?_eq_some_iff.1 hk
 refine Nat.lt_of_le_of_ne hle fun heq=>he ?_
 have hlt:h.findIdx (fun e=>decide (e.rep=r)) < h.length:=by show placeF h r < _;omega
 have h2:=List.findIdx_getElem (w:=hlt)
 have h3 : h[h.findIdx (fun e => decide (e.rep = r))]'hlt = h[k]'hl := by congr 1; exact heq.symm
 rw [h3,hx] at h2
 simpa using h2
set_option maxRecDepth 100000 in
theorem place1_any (x t r:Int) (B:Nat) (w:World) (c:Bool) (hB:B < w.heap.size) (h0:w.cell? ⟨B,0,none⟩=some (.int .i64 r)) (hc:decide (x=r)=c) :
   Calls Tryz.prog 170 #[.agg #[.int .i64 x,.int .i64 t],.pointer (some ⟨B,0,none⟩)] w fun e w'=>e=.returned (.bool c)∧Below w.heap.size w w':=by
 have hcc:(x == r)=c:=by rw [←hc];rfl
 have h1:(w.alloc (.cells #[.int .i64 x,.int .i64 t] 80)).cell? ⟨B,0,none⟩=some (.int .i64 r):=(World.cell?_alloc_lt _ _ _ hB).trans h0
 go_enter Tryz.func170,Tryz.ntmps170
 go_wp2
 go_ret
 exact ⟨by first | rfl | (rw [hcc]),(Below.refl _ _).alloc (Nat.le_refl _) _⟩
set_option maxRecDepth 100000 in
set_option maxHeartbeats 2000000 in
theorem idxe_any (v:Value) (h:List Ent) (r:Int) (p B:Nat) (w:World) (hv:IsEnts w v h) (hl:h.length≤1000000) (hB:B < w.heap.size) (h0:w.cell? ⟨B,0,none⟩=some (.int .i64 r)) (hp:placeF h r=p) (hpl:p < h.length) :
   Calls Tryz.prog 169 #[v,.func (.func 170) #[] #[.pointer (some ⟨B,0,none⟩)]] w fun e w'=>e=.returned (.int .i64 (p:Int))∧Below w.heap.size w w':=by
 obtain ⟨a1,c1,rfl,f1⟩:=hv.form
 have F1:=Lib.hid f1
 obtain ⟨n,hn⟩:∃ n,n=h.length:=⟨_,rfl⟩
 rw [←hn] at hl hpl ⊢
 have HN:=Lib.hid hn
 have HP:=Lib.hid hp
 clear f1 hn hv hp
 go_enter Tryz.func169,Tryz.ntmps169
 go_wp2
 go_loopw [8] (fun i wr=>∃ k:Nat,k≤p∧i=.int .i64 k∧Below w.heap.size w wr) (fun i _=>n - (intOf i).toNat)
 case atStart=>exact ⟨0,Nat.zero_le _,rfl,Below.refl _ _⟩
 case round =>
   obtain ⟨k,hk,rfl,hbel⟩:=hrel
   have HB:=Lib.hid hbel
   clear hbel
   obtain ⟨x, hx⟩ : ∃ x, h[k]? = some x := ⟨h[k]'(by have := HN.out; omega), List.getElem?_eq_getElem _⟩
   obtain ⟨b1,o1,rfl,hb1,p0,p1⟩:=F1.out k x hx
   have hlt:k < n:=by omega
   have q0:=(HB.out.cell (p:=⟨b1,o1 + k * 2,none⟩) hb1).trans p0
   have q1:=(HB.out.cell (p:=⟨b1,o1 + k * 2 + 1,none⟩) hb1).trans p1
   have HC:Hid (wr.cell? ⟨B,0,none⟩=some (.int .i64 r)):=Lib.hid ((HB.out.cell (p:=⟨B,0,none⟩) hB).trans h0)
   have HBW:Hid (B < wr.heap.size):=Lib.hid (Nat.lt_of_lt_of_le hB HB.out.size)
   obtain ⟨c,hc⟩:∃ c,decide (x.rep=r)=c:=⟨_,rfl⟩
   have HCC:=Lib.hid hc
   have HX:=Lib.hid hx
   obtain ⟨X,T⟩:=x
   dsimp only at q0 q1 HCC
   clear p0 p1 hx hc
   go_wp2_with fail
   refine (place1_any X T r B wr c HBW.out HC.out HCC.out).mono ?_
   rintro rr w1 ⟨rfl,hb1⟩
   have HB1:Hid (Below w.heap.size w w1):=HB.out.trans (hb1.mono HB.out.size)
   clear hb1 q0 q1
   cases c with
   | true =>
     have hpk:=place_hit HX.out (by rw [HP.out];exact hk) (of_decide_eq_true HCC.out)
     rw [HP.out] at hpk
     have HPK:=Lib.hid hpk
     clear hpk
     go_wp2
     go_ret
     exact ⟨by rw [HPK.out];rfl,HB1.out⟩
   | false =>
     have hpk:=place_miss HX.out (by rw [HP.out];exact hk) (of_decide_eq_false HCC.out)
     rw [HP.out] at hpk
     go_wp2
     go_roundw
     case rel=>exact ⟨k + 1,hpk,by go_num,HB1.out⟩
     case measure=>simp [intOf];omega
set_option maxRecDepth 100000 in
theorem bplace_any (v:Value) (h:List Ent) (r:Int) (p:Nat) (w:World) (hv:IsEnts w v h) (hl:h.length≤1000000) (hp:placeF h r=p) (hpl:p < h.length) :
   Calls Tryz.prog 117 #[v,.int .i64 r] w fun e w'=>e=.returned (.int .i64 (p:Int))∧Below w.heap.size w w':=by
 have hmf:∀ (fn:Fn) (first cap:Array Value) (w:World),(Instr.makeFunc fn first cap).run Tryz.prog w=.ok (.func fn first cap) w:=fun _ _ _ _=>rfl
 have HV:=Lib.hid (hv.below ((Below.refl _ _).alloc (Nat.le_refl _) (.cells #[.int .i64 r] 3)))
 clear hv
 go_enter Tryz.func117,Tryz.ntmps117
 go_wp2_with fail
 refine (idxe_any v h r p w.heap.size _ HV.out hl (by simp) (by simp) hp hpl).mono ?_
 rintro rr w1 ⟨rfl,hb1⟩
 have HB1:Hid (Below w.heap.size w w1):=Lib.hid (((Below.refl _ _).alloc (Nat.le_refl _) _).trans (hb1.mono (by simp)))
 clear hb1
 go_wp2
 go_ret
 exact ⟨rfl,HB1.out⟩
end Go.Proofs.YtgfinhehgfbdgaaGreatDoor
namespace Go.Proofs.YtgfinhehgfbdgaaGreatDoor
open Go.RowKit
theorem grown_b {w w':World} (h:Below w.heap.size w w'):w.grownBy w' none:=⟨h.os,h.tape,h.output,h.size,fun k hk _=>h.block k hk⟩
end Go.Proofs.YtgfinhehgfbdgaaGreatDoor
namespace Go.Proofs.YtgfinhehgfbdgaaGreatDoor
open Go.RowKit
def oneH:List Ent:=[⟨3,7⟩]
def oneW:List Wr:=[⟨7,3,1,⟨#[107]⟩,⟨#[118]⟩,0⟩]
theorem one_right:batF [] oneH oneW=(0,-1):=by decide +kernel
theorem one_same:sameV [] oneH oneW [] oneH oneW=true:=sameV_self _ _ _
theorem one_ok:∀ t∈oneW,WrOk t:=by
 intro t ht
 simp only [oneW,List.mem_singleton] at ht
 subst ht
 refine ⟨by decide,by decide,?_,?_⟩
 · show (1:Nat)≤_;decide
 · show (1:Nat)≤_;decide
theorem ents_one {w:World} {B:Nat} {t:Ent} (h:w.heap[B]? = some (.cells #[.int .i64 t.rep,.int .i64 t.time] 80 (0,0))):IsEnts w (.slice (some ⟨B,0,none⟩) 1 1) [t]:=by
 refine .inr ⟨B,0,1,rfl,⟨Nat.zero_lt_one,Nat.le_refl 1⟩,(Array.getElem?_eq_some_iff.1 h).1,fun j u hj=>?_⟩
 rw [Nat.zero_add,cell_of_row _ _ j _ _ (0,0) h]
 simpa [entsC,entC] using hj
theorem bat_one {w:World} {P Q:Nat} (hp:w.heap[P]? = some (.cells #[.int .i64 3,.int .i64 7] 80 (0,0))) (hq:w.heap[Q]? = some (.cells #[.int .i64 7,.int .i64 3,.int .i64 1,.string ⟨#[107]⟩,.string ⟨#[118]⟩,.int .i64 0] 61 (0,0))) :
   BatIs w (.slice none 0 0) (.slice (some ⟨P,0,none⟩) 1 1) (.slice (some ⟨Q,0,none⟩) 1 1) [] oneH oneW :=
 ⟨IsEnts.nil _,ents_one hp,wrBlk_is hq,by decide,by decide,by decide,one_ok⟩
set_option maxRecDepth 100000 in
set_option maxHeartbeats 4000000 in
theorem one_any (w:World):Calls Tryz.prog 55 #[] w fun e w'=>∃ P Q,e=.returned (.agg #[.slice none 0 0,.slice (some ⟨P,0,none⟩) 1 1,.slice (some ⟨Q,0,none⟩) 1 1])∧BatIs w' (.slice none 0 0) (.slice (some ⟨P,0,none⟩) 1 1) (.slice (some ⟨Q,0,none⟩) 1 1) [] oneH oneW∧Below w.heap.size w w':=by
 go_enter Tryz.func55,Tryz.ntmps55
 go_wp2
 refine bodyPost_ret (v:=.agg #[.slice none 0 0,.slice (some ⟨w.heap.size + 1,0,none⟩) 1 1,.slice (some ⟨w.heap.size + 1 + 1,0,none⟩) 1 1]) (by simp [results,Tryz.results55,go_sem]) rfl ?_
 refine ⟨_,_,rfl,bat_one ?_ ?_,(((Below.refl _ _).alloc (Nat.le_refl _) _).alloc (by simp) _).alloc (by simp;omega) _⟩
 · have h:=heap_alloc2_old (w.alloc (.cells #[.slice none 0 0,.slice (some ⟨w.heap.size + 1,0,none⟩) 1 1,.slice (some ⟨w.heap.size + 1 + 1,0,none⟩) 1 1] 25)) (.cells #[.int .i64 3,.int .i64 7] 80) (.cells #[.int .i64 7,.int .i64 3,.int .i64 1,.string ⟨#[107]⟩,.string ⟨#[118]⟩,.int .i64 0] 61)
   rw [World.size_alloc] at h
   exact h
 · have h:=heap_alloc2_new (w.alloc (.cells #[.slice none 0 0,.slice (some ⟨w.heap.size + 1,0,none⟩) 1 1,.slice (some ⟨w.heap.size + 1 + 1,0,none⟩) 1 1] 25)) (.cells #[.int .i64 3,.int .i64 7] 80) (.cells #[.int .i64 7,.int .i64 3,.int .i64 1,.string ⟨#[107]⟩,.string ⟨#[118]⟩,.int .i64 0] 61)
   rw [World.size_alloc] at h
   exact h
def two2 (w:World) (B C:Nat) (a b c d e g:Value):Prop :=
 w.cell? ⟨B,0,none⟩=some a∧w.cell? ⟨B,1,none⟩=some b∧w.cell? ⟨B,2,none⟩=some c∧w.cell? ⟨C,0,none⟩=some d∧w.cell? ⟨C,1,none⟩=some e∧w.cell? ⟨C,2,none⟩=some g
theorem two2.below {w w':World} {B C:Nat} {a b c d e g:Value} {m:Nat} (h:two2 w B C a b c d e g) (hb:Below m w w') (hm:B < m) (hm2:C < m):two2 w' B C a b c d e g :=
 ⟨(hb.cell hm).trans h.1,(hb.cell hm).trans h.2.1,(hb.cell hm).trans h.2.2.1,(hb.cell hm2).trans h.2.2.2.1,(hb.cell hm2).trans h.2.2.2.2.1,(hb.cell hm2).trans h.2.2.2.2.2⟩
theorem brightB_as (vf vh vw:Value) (f h:List Ent) (l:List Wr) (e:Nat) (pl:Int) (w:World) (hx:BatIs w vf vh vw f h l) (hg:errT w) (hb:batF f h l=(e,pl)) :
   Calls Tryz.prog 23 #[.agg #[vf,vh,vw]] w (VRightIs w (e,pl)):=by
 rw [←hb];exact brightB vf vh vw f h l w hx hg
end Go.Proofs.YtgfinhehgfbdgaaGreatDoor
namespace Go.Proofs.YtgfinhehgfbdgaaGreatDoor
open Go.RowKit
theorem rdF_err {s:List UInt8} {f a e p:Nat} {l:List Tok} {b:List Nat} (h:rdF s f a l b=.inl (e,p)):e≠0:=by
 induction f generalizing a l b with
 | zero=>cases h
 | succ f ih =>
   by_cases hlt:a < s.length
   · match hg:getT (s.drop a) with
     | .inl (e',p') =>
       rw [rdF_bad hlt hg] at h
       injection h with h
       injection h with h1 h2
       subst h1
       exact getT_err hg
     | .inr (t,k)=>rw [rdF_ok hlt hg] at h;exact ih h
   · rw [rdF_end hlt] at h;cases h
def swellF (s:List UInt8):List UInt8:=if (readF s).1.1=0 then textL [] (readF s).2 else []
theorem swell_ok {s:List UInt8} (h:(readF s).1.1=0):swellF s=textL [] (readF s).2:=by unfold swellF;rw [if_pos h]
theorem swell_bad {s:List UInt8} (h:¬ (readF s).1.1=0):swellF s=[]:=by unfold swellF;rw [if_neg h]
theorem read_good {s:List UInt8} (h:(readF s).1.1=0):(readF s).1=(0,-1):=by
 match hr:rdF s s.length 0 [] [] with
 | .inl (e,p) =>
   rw [readF_bad hr] at h
   exact absurd h (rdF_err hr)
 | .inr (l,b) =>
   by_cases hw:(rightF l 0 0).1=0
   · rw [readF_ok hr hw]
   · rw [readF_wrong hr hw] at h
     exact absurd h hw
def SwellIs (w:World) (s:List UInt8) (e:Ending) (w':World):Prop :=
 ∃ err,e=.returned (.tuple #[.string ⟨(swellF s).toArray⟩,err])∧atIs w' err (readF s).1∧Below w.heap.size w w'
set_option maxRecDepth 100000 in
set_option maxHeartbeats 2000000 in
theorem lzswell_any (s:ByteArray) (w:World) (hs:s.size≤400000) (hg:errT w) :
   Calls Tryz.prog 60 #[.string s] w (SwellIs w s.data.toList):=by
 have HG:=Lib.hid hg
 clear hg
 by_cases hr:(readF s.data.toList).1.1=0
 · have HS:=Lib.hid (swell_ok hr)
   have hr2:=(read_only hr).1
   obtain ⟨f1,_,_⟩:=right_few hr2
   have HF1:Hid ((readF s.data.toList).2.length≤9223372036854775807):=Lib.hid (show (readF s.data.toList).2.length≤9223372036854775807 by omega)
   have HF2:Hid (∀ t∈(readF s.data.toList).2,t.own.size≤140737488351232):=Lib.hid (show ∀ t∈(readF s.data.toList).2,t.own.size≤140737488351232 from fun t ht=>by have:=right_own hr2 t ht;omega)
   have HR0:=Lib.hid hr
   have HRG:=Lib.hid (read_good hr)
   have HR2:=Lib.hid hr2
   have HT:Hid (textF (readF s.data.toList).2=textL [] (readF s.data.toList).2):=Lib.hid (show textF (readF s.data.toList).2=textL [] (readF s.data.toList).2 by unfold textF;rw [if_pos hr2])
   clear hr hr2 f1
   go_enter Tryz.func60,Tryz.ntmps60
   go_wp2_with fail
   refine (lzread_any s _ hs HG.out).mono ?_
   rintro r w1 ⟨v,err,rfl,hok,hat,hb1⟩
   obtain rfl:=hat.nil HR0.out
   have HK:=Lib.hid hok
   have HB1:=Lib.hid hb1
   clear hok hat hb1
   go_wp2_with fail
   refine (text_any v _ _ HK.out.is HF1.out HF2.out).mono ?_
   rintro r w2 ⟨err,rfl,hat,hb2⟩
   obtain rfl:=hat.nil HR2.out
   have HB2:Hid (Below w.heap.size w w2):=HB1.out.trans (hb2.mono HB1.out.size)
   clear hat hb2
   go_wp2
   go_ret2
   refine ⟨.nilIface,?_,.inl ⟨HRG.out,rfl⟩,HB2.out⟩
   rw [HS.out,HT.out];rfl
 · have HS:=Lib.hid (swell_bad hr)
   have HR0:=Lib.hid hr
   clear hr
   go_enter Tryz.func60,Tryz.ntmps60
   go_wp2_with fail
   refine (lzread_any s _ hs HG.out).mono ?_
   rintro r w1 ⟨v,err,rfl,hok,hat,hb1⟩
   obtain ⟨ty,u,rfl⟩:=hat.iface HR0.out
   have HAT:=Lib.hid hat
   have HB1:=Lib.hid hb1
   clear hok hat hb1
   go_wp2
   go_ret2
   exact ⟨_,by rw [HS.out];rfl,HAT.out,HB1.out⟩
def abc9:List UInt8:=[97,98,99,97,98,99,97,98,99]
theorem abc9_toks:toks abc9=[⟨⟨#[97,98,99]⟩,0,0⟩,repT 3 6]:=by decide
theorem abc9_sq:sqL abc9=[6,97,98,99,5,2]:=by
 unfold sqL
 rw [abc9_toks,writeL_cons,writeL_cons,writeL_nil,putT_own (by decide),putT_rep (by decide)]
 rw [putL_small (by decide),putL_small (by decide),putL_small (by decide)]
 rfl
theorem swell_sq (s:List UInt8) (h:s.length≤20000):swellF (sqL s)=s∧(readF (sqL s)).1=(0,-1):=by
 have h1:=toks_text s h
 have h2:readF (sqL s)=((0,-1),toks s):=read_write (by rw [h1.1])
 refine ⟨?_,by rw [h2]⟩
 rw [swell_ok (by rw [h2]),h2];exact h1.2
theorem sq_len (s:List UInt8) (h:s.length≤20000):(sqL s).length≤220000:=(right_few (l:=toks s) (by rw [(toks_text s h).1])).2.1
end Go.Proofs.YtgfinhehgfbdgaaGreatDoor
