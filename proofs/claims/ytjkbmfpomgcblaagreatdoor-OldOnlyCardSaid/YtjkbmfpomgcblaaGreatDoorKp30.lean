import Derived.Test.YtjkbmfpomgcblaaGreatDoorKp16
import Derived.Test.YtjkbmfpomgcblaaGreatDoorKp26
namespace Go.Proofs.YtjkbmfpomgcblaaGreatDoor
open Go.RowKit
theorem own_apart {w:World} {base base':Nat} {e1 e2:TypeId} {k1 k2 n1 n2:Nat} {v1 v2:Value} {x1 x2:List Value} (h1:w.ownsRow base e1 k1 v1 n1 x1) (h2:w.ownsRow base' e2 k2 v2 n2 x2) (hne:e1≠e2) :
   v1.ownBlock=none∨v1.ownBlock≠v2.ownBlock:=by
 rcases h1.2 with ⟨rfl,_⟩ | ⟨g,cap,cur,rfl,_,hh,_⟩
 · exact .inl rfl
 · refine .inr ?_
   rcases h2.2 with ⟨rfl,_⟩ | ⟨g',cap',cur',rfl,_,hh',_⟩
   · simp [Value.ownBlock]
   · intro e
     have:g=g':=by simpa [Value.ownBlock] using e
     subst this
     rw [hh] at hh'
     injection hh' with hh'
     injection hh' with _ ht
     exact hne ht
def LReadIs (w:World) (s:List UInt8) (e:Ending) (w':World):Prop :=
 ∃ v err,e=.returned (.tuple #[v,err])∧ownsK w' w.heap.size v (readF s).2∧atIs w' err (readF s).1∧Below w.heap.size w w'
theorem atIs.iface {w:World} {v:Value} {r:Nat×Int} (h:atIs w v r) (h0:r.1≠0):∃ t u,v=.iface t u:=by
 rcases h with ⟨h,_⟩ | ⟨_,b,h,_⟩
 · exact absurd (by rw [h]) h0
 · exact ⟨_,_,h⟩
theorem atIs.nil {w:World} {v:Value} {r:Nat×Int} (h:atIs w v r) (h0:r.1=0):v=.nilIface:=by
 rcases h with ⟨_,h⟩ | ⟨h,_⟩
 · exact h
 · exact absurd h0 h
theorem getT_err {l:List UInt8} {e p:Nat} (hg:getT l=.inl (e,p)):e≠0:=by
 intro h0
 subst h0
 unfold getT at hg
 split at hg
 · rename_i hne;injection hg with hg;injection hg with hg _;exact hne hg
 · split at hg
   · split at hg
     · injection hg with hg;injection hg with hg _;omega
     · split at hg
       · injection hg with hg;injection hg with hg _;omega
       · cases hg
   · split at hg
     · injection hg with hg;injection hg with hg _;omega
     · split at hg
       · rename_i hne;injection hg with hg;injection hg with hg _;exact hne hg
       · cases hg
theorem rightBL_err (l:List Tok) (b:List Nat):(rightBL l b).1=(rightF l 0 0).1:=by
 unfold rightBL;split
 · rename_i h;exact h.symm
 · rfl
set_option maxRecDepth 100000 in
set_option maxHeartbeats 4000000 in
theorem lzread_any (s:ByteArray) (w:World) (hs:s.size≤400000) (hg:errT w) :
   Calls Tryz.prog 153 #[.string s] w (LReadIs w s.data.toList):=by
 have HG:=Lib.hid hg
 have hlen:s.data.toList.length=s.size:=(size_data s).symm
 have HL:=Lib.hid hlen
 clear hg hlen
 go_enter Tryz.func153,Tryz.ntmps153
 go_wp2
 go_loopw [4,5,6] (fun lv bv av wr=>∃ (f a:Nat) (l:List Tok) (b:List Nat),av=.int .i64 a∧a≤s.size∧s.size≤a + f∧l.length≤a∧b.length=l.length∧(∀ t∈l,t.own.size≤140737488351232)∧rdF s.data.toList s.data.toList.length 0 [] []=rdF s.data.toList f a l b∧ownsK wr w.heap.size lv l∧ownsN wr w.heap.size bv b∧Below w.heap.size w wr) (fun _ _ av _=>s.size - (intOf av).toNat)
 case atStart=>exact ⟨s.size,0,[],[],rfl,by omega,by omega,by simp,rfl,(fun t h=>by cases h),by rw [HL.out],ownsK_nil _ _,ownsN_nil _ _,Below.refl _ _⟩
 case round =>
   obtain ⟨f,a,l,b,rfl,ha,hf,hla,hbl,hz,heq,hok,hon,hbel⟩:=hrel
   have HZ:=Lib.hid hz
   have HBL:=Lib.hid hbl
   have HEQ:=Lib.hid heq
   have HK:=Lib.hid hok
   have HN:=Lib.hid hon
   have HB:=Lib.hid hbel
   have hzr:=hbel.size
   have HGR:=Lib.hid (HG.out.below (hbel.mono (Nat.le_refl _)))
   clear hz hbl heq hok hon hbel
   by_cases hlt:a < s.size
   · obtain ⟨f',rfl⟩:∃ f',f=f' + 1:=⟨f - 1,by omega⟩
     have hlt':a < s.data.toList.length:=by rw [HL.out];exact hlt
     match hgt:getT (s.data.toList.drop a) with
     | .inl (e,p) =>
       have HE:Hid (rdF s.data.toList s.data.toList.length 0 [] []=.inl (e,a + p)):=Lib.hid (show rdF s.data.toList s.data.toList.length 0 [] []=.inl (e,a + p) by rw [HEQ.out,rdF_bad hlt' hgt])
       have HNE:=Lib.hid (getT_err hgt)
       have HGT:=Lib.hid hgt
       clear hgt hlt'
       go_wp2_with fail
       refine (lzget_any s a _ (by omega) (by omega) HGR.out).mono ?_
       rw [HGT.out]
       rintro r w1 ⟨err,rfl,hat,hb1⟩
       have HAT:=Lib.hid hat
       have HB1:Hid (Below w.heap.size w w1):=HB.out.trans (hb1.mono hzr)
       have hz1:=HB1.out.size
       obtain ⟨ty,u,rfl⟩:=hat.iface HNE.out
       clear hat hb1
       go_wp2
       go_ret2
       refine ⟨_,_,rfl,?_⟩
       rw [readF_bad HE.out]
       exact ⟨ownsK_nil _ _,HAT.out.below ((Below.refl _ _).alloc (Nat.le_refl _) _),HB1.out.alloc hz1 _⟩
     | .inr (t,k) =>
       obtain ⟨k1,k2,_,_,k5⟩:=getT_only hgt
       rw [List.length_drop,HL.out] at k2 k5
       have HE:Hid (rdF s.data.toList s.data.toList.length 0 [] []=rdF s.data.toList f' (a + k) (l ++ [t]) (b ++ [a])):=Lib.hid (show rdF s.data.toList s.data.toList.length 0 [] []=rdF s.data.toList f' (a + k) (l ++ [t]) (b ++ [a]) by rw [HEQ.out,rdF_ok hlt' hgt])
       have HGT:=Lib.hid hgt
       have HZ2:Hid (∀ u∈l ++ [t],u.own.size≤140737488351232):=Lib.hid (show ∀ u∈l ++ [t],u.own.size≤140737488351232 from fun u hu=>by
         rcases List.mem_append.1 hu with hu | hu
         · exact HZ.out u hu
         · rw [List.mem_singleton.1 hu];omega)
       have HTV:Hid (tokV t=.agg #[.string t.own,.int .i64 t.back,.int .i64 t.size]):=rfl
       clear hgt hlt' k5
       go_wp2_with fail
       refine (lzget_any s a _ (by omega) (by omega) HGR.out).mono ?_
       rw [HGT.out]
       rintro r w1 ⟨rfl,hb1⟩
       have HB1:Hid (Below w.heap.size w w1):=HB.out.trans (hb1.mono hzr)
       have hz1:=HB1.out.size
       have HK1:=Lib.hid (HK.out.below hb1)
       have HN1:=Lib.hid (HN.out.below hb1)
       clear hb1
       rw [HTV.out]
       go_wp2_with (at_builtin;refine wpList_append_tok rfl _ _ rfl w.heap.size _ l rfl ((HK1.out.alloc _).alloc _) (w1.heap.size + 1) 1 rfl t ?c1 ?c2 ?c3 ?_)
       case c1=>have:=tokBlk_new (w1.alloc (.cells #[.string t.own,.int .i64 t.back,.int .i64 t.size] 224)) t.own t.back t.size;simpa using this
       case c2=>omega
       case c3=>simp;omega
       · intro g cap w2 ho2 hg2
         have HB2:Hid (Below w.heap.size w w2):=((HB1.out.alloc hz1 _).alloc (by simp;omega) _).grown hg2 (by simp;omega) (fun g hg=>(HK1.out.lt g hg).1)
         have HN2:=Lib.hid (show ownsN w2 w.heap.size _ b from World.ownsRow.kept ((HN1.out.alloc _).alloc _) hg2 (own_apart HN1.out HK1.out (show 3≠224 by decide)))
         have HK2:=Lib.hid ho2
         have hz2:=HB2.out.size
         clear ho2 hg2
         go_wp2_with (at_builtin;refine wpList_append_int rfl _ _ rfl w.heap.size _ b rfl (HN2.out.alloc _) ⟨w2.heap.size,0,none⟩ 1 rfl a ?c4 ?c5 ?c6 ?_)
         case c4=>simp [Addr.add]
         case c5=>have:=HBL.out;omega
         case c6=>simp;omega
         · intro g' cap' w3 ho3 hg3
           have HB3:Hid (Below w.heap.size w w3):=(HB2.out.alloc hz2 _).grown hg3 (by simp;omega) (fun g hg=>(HN2.out.lt g hg).1)
           have HK3:Hid (ownsK w3 w.heap.size (.slice (some ⟨g,0,none⟩) (l.length + 1) cap) (l ++ [t])):=World.ownsRow.kept (HK2.out.alloc _) hg3 (own_apart HK2.out HN2.out (show 224≠3 by decide))
           have HN3:=Lib.hid ho3
           clear ho3 hg3
           obtain ⟨l1,hl1⟩:∃ l1,l ++ [t]=l1:=⟨_,rfl⟩
           have hll:l1.length=l.length + 1:=by rw [←hl1];simp
           rw [hl1] at HK3 HE HZ2
           have HBL2:Hid ((b ++ [a]).length=l1.length):=Lib.hid (show (b ++ [a]).length=l1.length by rw [hll,List.length_append,HBL.out];rfl)
           clear hl1
           go_wp2
           go_roundw
           case rel=>exact ⟨f',a + k,l1,b ++ [a],by go_num,by omega,by omega,by omega,HBL2.out,HZ2.out,HE.out,HK3.out,HN3.out,HB3.out⟩
           case measure=>simp [intOf];omega
   · have hlt':¬ a < s.data.toList.length:=by rw [HL.out];exact hlt
     have HE:Hid (rdF s.data.toList s.data.toList.length 0 [] []=.inr (l,b)):=Lib.hid (show rdF s.data.toList s.data.toList.length 0 [] []=.inr (l,b) by rw [HEQ.out,rdF_end hlt'])
     clear hlt'
     go_wp2_with fail
     refine (lzright_any _ _ l b w.heap.size _ HK.out.is (by omega) HZ.out HN.out HBL.out).mono ?_
     rintro r w1 ⟨err,rfl,hat,hb1⟩
     have HAT:=Lib.hid hat
     have HB1:Hid (Below w.heap.size w w1):=HB.out.trans (hb1.mono hzr)
     have HK1:=Lib.hid (HK.out.below hb1)
     clear hb1
     by_cases hr:(rightF l 0 0).1=0
     · obtain rfl:=hat.nil (by rw [rightBL_err];exact hr)
       have HRD:=Lib.hid (readF_ok HE.out hr)
       clear hat hr
       go_wp2
       go_ret2
       refine ⟨_,_,rfl,?_⟩
       rw [HRD.out]
       exact ⟨HK1.out,.inl ⟨rfl,rfl⟩,HB1.out⟩
     · obtain ⟨ty,u,rfl⟩:=hat.iface (by rw [rightBL_err];exact hr)
       have HRD:=Lib.hid (readF_wrong HE.out hr)
       have HAT2:Hid (atIs w1 (.iface ty u) ((rightF l 0 0).1,((b.getD (rightF l 0 0).2.toNat 0:Nat):Int))):=by
         have h:=HAT.out
         unfold rightBL at h
         rw [if_neg hr] at h
         exact h
       clear hat hr
       go_wp2
       go_ret2
       refine ⟨_,_,rfl,?_⟩
       rw [HRD.out]
       exact ⟨ownsK_nil _ _,HAT2.out,HB1.out⟩
end Go.Proofs.YtjkbmfpomgcblaaGreatDoor
namespace Go.Proofs.YtjkbmfpomgcblaaGreatDoor
open Go.RowKit
theorem place_hit {h:List Ent} {r:Int} {k:Nat} {e:Ent} (hk:h[k]? = some e) (hle:k≤placeF h r) (he:e.rep=r):placeF h r=k:=by
 obtain ⟨hl,hx⟩:=List.getElem?_eq_some_iff.1 hk
 refine Nat.le_antisymm (Nat.not_lt.1 fun hlt=>?_) hle
 have h2 : ¬ (decide ((h[k]'hl).rep = r) = true) := by simpa using List.not_of_lt_findIdx hlt
 exact h2 (by rw [hx];simpa using he)
theorem place_miss {h:List Ent} {r:Int} {k:Nat} {e:Ent} (hk:h[k]? = some e) (hle:k≤placeF h r) (he:e.rep≠r):k + 1≤placeF h r:=by
 obtain ⟨hl,hx⟩:=List.getElem?_eq_some_iff.1 hk
 refine Nat.lt_of_le_of_ne hle fun heq=>he ?_
 have hlt:h.findIdx (fun e=>decide (e.rep=r)) < h.length:=by show placeF h r < _;omega
 have h2:=List.findIdx_getElem (w:=hlt)
 have h3 : h[h.findIdx (fun e => decide (e.rep = r))]'hlt = h[k]'hl := by congr 1; exact heq.symm
 rw [h3,hx] at h2
 simpa using h2
set_option maxRecDepth 100000 in
theorem place1_any (x t r:Int) (B:Nat) (w:World) (c:Bool) (hB:B < w.heap.size) (h0:w.cell? ⟨B,0,none⟩=some (.int .i64 r)) (hc:decide (x=r)=c) :
   Calls Tryz.prog 167 #[.agg #[.int .i64 x,.int .i64 t],.pointer (some ⟨B,0,none⟩)] w fun e w'=>e=.returned (.bool c)∧Below w.heap.size w w':=by
 have hcc:(x == r)=c:=by rw [←hc];rfl
 have h1:(w.alloc (.cells #[.int .i64 x,.int .i64 t] 74)).cell? ⟨B,0,none⟩=some (.int .i64 r):=(World.cell?_alloc_lt _ _ _ hB).trans h0
 go_enter Tryz.func167,Tryz.ntmps167
 go_wp2
 go_ret
 exact ⟨by first | rfl | (rw [hcc]),(Below.refl _ _).alloc (Nat.le_refl _) _⟩
set_option maxRecDepth 100000 in
set_option maxHeartbeats 2000000 in
theorem idxe_any (v:Value) (h:List Ent) (r:Int) (p B:Nat) (w:World) (hv:IsEnts w v h) (hl:h.length≤1000000) (hB:B < w.heap.size) (h0:w.cell? ⟨B,0,none⟩=some (.int .i64 r)) (hp:placeF h r=p) (hpl:p < h.length) :
   Calls Tryz.prog 166 #[v,.func (.func 167) #[] #[.pointer (some ⟨B,0,none⟩)]] w fun e w'=>e=.returned (.int .i64 (p:Int))∧Below w.heap.size w w':=by
 obtain ⟨a1,c1,rfl,f1⟩:=hv.form
 have F1:=Lib.hid f1
 obtain ⟨n,hn⟩:∃ n,n=h.length:=⟨_,rfl⟩
 rw [←hn] at hl hpl ⊢
 have HN:=Lib.hid hn
 have HP:=Lib.hid hp
 clear f1 hn hv hp
 go_enter Tryz.func166,Tryz.ntmps166
 go_wp2
 go_loopw [8] (fun i wr=>∃ k:Nat,k≤p∧i=.int .i64 k∧Below w.heap.size w wr) (fun i _=>n - (intOf i).toNat)
 case atStart=>exact ⟨0,Nat.zero_le _,rfl,Below.refl _ _⟩
 case round =>
   obtain ⟨k,hk,rfl,hbel⟩:=hrel
   have HB:=Lib.hid hbel
   clear hbel
   obtain ⟨x, hx⟩ : ∃ x, h[k]? = some x := ⟨h[k]'(by have := HN.out; omega), List.getElem?_eq_getElem _⟩
   obtain ⟨b1,o1,rfl,hb1,p0,p1⟩:=F1.out k x hx
   have hlt:k < n:=by omega
   have q0:=(HB.out.cell (p:=⟨b1,o1 + k * 2,none⟩) hb1).trans p0
   have q1:=(HB.out.cell (p:=⟨b1,o1 + k * 2 + 1,none⟩) hb1).trans p1
   have HC:Hid (wr.cell? ⟨B,0,none⟩=some (.int .i64 r)):=Lib.hid ((HB.out.cell (p:=⟨B,0,none⟩) hB).trans h0)
   have HBW:Hid (B < wr.heap.size):=Lib.hid (Nat.lt_of_lt_of_le hB HB.out.size)
   obtain ⟨c,hc⟩:∃ c,decide (x.rep=r)=c:=⟨_,rfl⟩
   have HCC:=Lib.hid hc
   have HX:=Lib.hid hx
   obtain ⟨X,T⟩:=x
   dsimp only at q0 q1 HCC
   clear p0 p1 hx hc
   go_wp2_with fail
   refine (place1_any X T r B wr c HBW.out HC.out HCC.out).mono ?_
   rintro rr w1 ⟨rfl,hb1⟩
   have HB1:Hid (Below w.heap.size w w1):=HB.out.trans (hb1.mono HB.out.size)
   clear hb1 q0 q1
   cases c with
   | true =>
     have hpk:=place_hit HX.out (by rw [HP.out];exact hk) (of_decide_eq_true HCC.out)
     rw [HP.out] at hpk
     have HPK:=Lib.hid hpk
     clear hpk
     go_wp2
     go_ret
     exact ⟨by rw [HPK.out];rfl,HB1.out⟩
   | false =>
     have hpk:=place_miss HX.out (by rw [HP.out];exact hk) (of_decide_eq_false HCC.out)
     rw [HP.out] at hpk
     go_wp2
     go_roundw
     case rel=>exact ⟨k + 1,hpk,by go_num,HB1.out⟩
     case measure=>simp [intOf];omega
set_option maxRecDepth 100000 in
theorem bplace_any (v:Value) (h:List Ent) (r:Int) (p:Nat) (w:World) (hv:IsEnts w v h) (hl:h.length≤1000000) (hp:placeF h r=p) (hpl:p < h.length) :
   Calls Tryz.prog 110 #[v,.int .i64 r] w fun e w'=>e=.returned (.int .i64 (p:Int))∧Below w.heap.size w w':=by
 have hmf:∀ (fn:Fn) (first cap:Array Value) (w:World),(Instr.makeFunc fn first cap).run Tryz.prog w=.ok (.func fn first cap) w:=fun _ _ _ _=>rfl
 have HV:=Lib.hid (hv.below ((Below.refl _ _).alloc (Nat.le_refl _) (.cells #[.int .i64 r] 3)))
 clear hv
 go_enter Tryz.func110,Tryz.ntmps110
 go_wp2_with fail
 refine (idxe_any v h r p w.heap.size _ HV.out hl (by simp) (by simp) hp hpl).mono ?_
 rintro rr w1 ⟨rfl,hb1⟩
 have HB1:Hid (Below w.heap.size w w1):=Lib.hid (((Below.refl _ _).alloc (Nat.le_refl _) _).trans (hb1.mono (by simp)))
 clear hb1
 go_wp2
 go_ret
 exact ⟨rfl,HB1.out⟩
end Go.Proofs.YtjkbmfpomgcblaaGreatDoor
namespace Go.Proofs.YtjkbmfpomgcblaaGreatDoor
open Go.RowKit
def oneH:List Ent:=[⟨3,7⟩]
def oneW:List Wr:=[⟨7,3,1,⟨#[107]⟩,⟨#[118]⟩,0⟩]
theorem one_right:batF [] oneH oneW=(0,-1):=by decide +kernel
theorem one_same:sameV [] oneH oneW [] oneH oneW=true:=sameV_self _ _ _
theorem one_ok:∀ t∈oneW,WrOk t:=by
 intro t ht
 simp only [oneW,List.mem_singleton] at ht
 subst ht
 refine ⟨by decide,by decide,?_,?_⟩
 · show (1:Nat)≤_;decide
 · show (1:Nat)≤_;decide
theorem ents_one {w:World} {B:Nat} {t:Ent} (h:w.heap[B]? = some (.cells #[.int .i64 t.rep,.int .i64 t.time] 74 (0,0))):IsEnts w (.slice (some ⟨B,0,none⟩) 1 1) [t]:=by
 refine .inr ⟨B,0,1,rfl,⟨Nat.zero_lt_one,Nat.le_refl 1⟩,(Array.getElem?_eq_some_iff.1 h).1,fun j u hj=>?_⟩
 rw [Nat.zero_add,cell_of_row _ _ j _ _ (0,0) h]
 simpa [entsC,entC] using hj
theorem bat_one {w:World} {P Q:Nat} (hp:w.heap[P]? = some (.cells #[.int .i64 3,.int .i64 7] 74 (0,0))) (hq:w.heap[Q]? = some (.cells #[.int .i64 7,.int .i64 3,.int .i64 1,.string ⟨#[107]⟩,.string ⟨#[118]⟩,.int .i64 0] 59 (0,0))) :
   BatIs w (.slice none 0 0) (.slice (some ⟨P,0,none⟩) 1 1) (.slice (some ⟨Q,0,none⟩) 1 1) [] oneH oneW :=
 ⟨IsEnts.nil _,ents_one hp,wrBlk_is hq,by decide,by decide,by decide,one_ok⟩
set_option maxRecDepth 100000 in
set_option maxHeartbeats 4000000 in
theorem one_any (w:World):Calls Tryz.prog 40 #[] w fun e w'=>∃ P Q,e=.returned (.agg #[.slice none 0 0,.slice (some ⟨P,0,none⟩) 1 1,.slice (some ⟨Q,0,none⟩) 1 1])∧BatIs w' (.slice none 0 0) (.slice (some ⟨P,0,none⟩) 1 1) (.slice (some ⟨Q,0,none⟩) 1 1) [] oneH oneW∧Below w.heap.size w w':=by
 go_enter Tryz.func40,Tryz.ntmps40
 go_wp2
 refine bodyPost_ret (v:=.agg #[.slice none 0 0,.slice (some ⟨w.heap.size + 1,0,none⟩) 1 1,.slice (some ⟨w.heap.size + 1 + 1,0,none⟩) 1 1]) (by simp [results,Tryz.results40,go_sem]) rfl ?_
 refine ⟨_,_,rfl,bat_one ?_ ?_,(((Below.refl _ _).alloc (Nat.le_refl _) _).alloc (by simp) _).alloc (by simp;omega) _⟩
 · have h:=heap_alloc2_old (w.alloc (.cells #[.slice none 0 0,.slice (some ⟨w.heap.size + 1,0,none⟩) 1 1,.slice (some ⟨w.heap.size + 1 + 1,0,none⟩) 1 1] 25)) (.cells #[.int .i64 3,.int .i64 7] 74) (.cells #[.int .i64 7,.int .i64 3,.int .i64 1,.string ⟨#[107]⟩,.string ⟨#[118]⟩,.int .i64 0] 59)
   rw [World.size_alloc] at h
   exact h
 · have h:=heap_alloc2_new (w.alloc (.cells #[.slice none 0 0,.slice (some ⟨w.heap.size + 1,0,none⟩) 1 1,.slice (some ⟨w.heap.size + 1 + 1,0,none⟩) 1 1] 25)) (.cells #[.int .i64 3,.int .i64 7] 74) (.cells #[.int .i64 7,.int .i64 3,.int .i64 1,.string ⟨#[107]⟩,.string ⟨#[118]⟩,.int .i64 0] 59)
   rw [World.size_alloc] at h
   exact h
def two2 (w:World) (B C:Nat) (a b c d e g:Value):Prop :=
 w.cell? ⟨B,0,none⟩=some a∧w.cell? ⟨B,1,none⟩=some b∧w.cell? ⟨B,2,none⟩=some c∧w.cell? ⟨C,0,none⟩=some d∧w.cell? ⟨C,1,none⟩=some e∧w.cell? ⟨C,2,none⟩=some g
theorem two2.below {w w':World} {B C:Nat} {a b c d e g:Value} {m:Nat} (h:two2 w B C a b c d e g) (hb:Below m w w') (hm:B < m) (hm2:C < m):two2 w' B C a b c d e g :=
 ⟨(hb.cell hm).trans h.1,(hb.cell hm).trans h.2.1,(hb.cell hm).trans h.2.2.1,(hb.cell hm2).trans h.2.2.2.1,(hb.cell hm2).trans h.2.2.2.2.1,(hb.cell hm2).trans h.2.2.2.2.2⟩
end Go.Proofs.YtjkbmfpomgcblaaGreatDoor
namespace Go.Proofs.YtjkbmfpomgcblaaGreatDoor
open Go.RowKit
theorem rdF_err {s:List UInt8} {f a e p:Nat} {l:List Tok} {b:List Nat} (h:rdF s f a l b=.inl (e,p)):e≠0:=by
 induction f generalizing a l b with
 | zero=>cases h
 | succ f ih =>
   by_cases hlt:a < s.length
   · match hg:getT (s.drop a) with
     | .inl (e',p') =>
       rw [rdF_bad hlt hg] at h
       injection h with h
       injection h with h1 h2
       subst h1
       exact getT_err hg
     | .inr (t,k)=>rw [rdF_ok hlt hg] at h;exact ih h
   · rw [rdF_end hlt] at h;cases h
def swellF (s:List UInt8):List UInt8:=if (readF s).1.1=0 then textL [] (readF s).2 else []
theorem swell_ok {s:List UInt8} (h:(readF s).1.1=0):swellF s=textL [] (readF s).2:=by unfold swellF;rw [if_pos h]
theorem swell_bad {s:List UInt8} (h:¬ (readF s).1.1=0):swellF s=[]:=by unfold swellF;rw [if_neg h]
theorem read_good {s:List UInt8} (h:(readF s).1.1=0):(readF s).1=(0,-1):=by
 match hr:rdF s s.length 0 [] [] with
 | .inl (e,p) =>
   rw [readF_bad hr] at h
   exact absurd h (rdF_err hr)
 | .inr (l,b) =>
   by_cases hw:(rightF l 0 0).1=0
   · rw [readF_ok hr hw]
   · rw [readF_wrong hr hw] at h
     exact absurd h hw
def SwellIs (w:World) (s:List UInt8) (e:Ending) (w':World):Prop :=
 ∃ err,e=.returned (.tuple #[.string ⟨(swellF s).toArray⟩,err])∧atIs w' err (readF s).1∧Below w.heap.size w w'
set_option maxRecDepth 100000 in
set_option maxHeartbeats 2000000 in
theorem lzswell_any (s:ByteArray) (w:World) (hs:s.size≤400000) (hg:errT w) :
   Calls Tryz.prog 97 #[.string s] w (SwellIs w s.data.toList):=by
 have HG:=Lib.hid hg
 clear hg
 by_cases hr:(readF s.data.toList).1.1=0
 · have HS:=Lib.hid (swell_ok hr)
   have hr2:=(read_only hr).1
   obtain ⟨f1,_,_⟩:=right_few hr2
   have HF1:Hid ((readF s.data.toList).2.length≤9223372036854775807):=Lib.hid (show (readF s.data.toList).2.length≤9223372036854775807 by omega)
   have HF2:Hid (∀ t∈(readF s.data.toList).2,t.own.size≤140737488351232):=Lib.hid (show ∀ t∈(readF s.data.toList).2,t.own.size≤140737488351232 from fun t ht=>by have:=right_own hr2 t ht;omega)
   have HR0:=Lib.hid hr
   have HRG:=Lib.hid (read_good hr)
   have HR2:=Lib.hid hr2
   have HT:Hid (textF (readF s.data.toList).2=textL [] (readF s.data.toList).2):=Lib.hid (show textF (readF s.data.toList).2=textL [] (readF s.data.toList).2 by unfold textF;rw [if_pos hr2])
   clear hr hr2 f1
   go_enter Tryz.func97,Tryz.ntmps97
   go_wp2_with fail
   refine (lzread_any s _ hs HG.out).mono ?_
   rintro r w1 ⟨v,err,rfl,hok,hat,hb1⟩
   obtain rfl:=hat.nil HR0.out
   have HK:=Lib.hid hok
   have HB1:=Lib.hid hb1
   clear hok hat hb1
   go_wp2_with fail
   refine (text_any v _ _ HK.out.is HF1.out HF2.out).mono ?_
   rintro r w2 ⟨err,rfl,hat,hb2⟩
   obtain rfl:=hat.nil HR2.out
   have HB2:Hid (Below w.heap.size w w2):=HB1.out.trans (hb2.mono HB1.out.size)
   clear hat hb2
   go_wp2
   go_ret2
   refine ⟨.nilIface,?_,.inl ⟨HRG.out,rfl⟩,HB2.out⟩
   rw [HS.out,HT.out];rfl
 · have HS:=Lib.hid (swell_bad hr)
   have HR0:=Lib.hid hr
   clear hr
   go_enter Tryz.func97,Tryz.ntmps97
   go_wp2_with fail
   refine (lzread_any s _ hs HG.out).mono ?_
   rintro r w1 ⟨v,err,rfl,hok,hat,hb1⟩
   obtain ⟨ty,u,rfl⟩:=hat.iface HR0.out
   have HAT:=Lib.hid hat
   have HB1:=Lib.hid hb1
   clear hok hat hb1
   go_wp2
   go_ret2
   exact ⟨_,by rw [HS.out];rfl,HAT.out,HB1.out⟩
theorem swell_sq (s:List UInt8) (h:s.length≤20000):swellF (sqL s)=s∧(readF (sqL s)).1=(0,-1):=by
 have h1:=toks_text s h
 have h2:readF (sqL s)=((0,-1),toks s):=read_write (by rw [h1.1])
 refine ⟨?_,by rw [h2]⟩
 rw [swell_ok (by rw [h2]),h2];exact h1.2
theorem sq_len (s:List UInt8) (h:s.length≤20000):(sqL s).length≤220000:=(right_few (l:=toks s) (by rw [(toks_text s h).1])).2.1
end Go.Proofs.YtjkbmfpomgcblaaGreatDoor
namespace Go.Proofs.YtjkbmfpomgcblaaGreatDoor
open Go.RowKit
def packL (b:List UInt8):List UInt8 :=
 if (sqL b).length < b.length then 1 :: (putL b.length ++ sqL b) else 0 :: (putL b.length ++ b)
def frmL (b:List UInt8):List UInt8:=sealL (80 :: 84 :: 3 :: packL b)
def unpF (i:List UInt8):List UInt8×Nat :=
 if 1 < (i.getD 0 0).toNat then ([],3) else
 match intL (i.drop 1) 20000 with
 | (n,k,e)=>if e≠0 then ([],e) else
   if (i.getD 0 0).toNat=1 then
     if (readF ((i.drop 1).drop k)).1.1≠0 then ([],(readF ((i.drop 1).drop k)).1.1)
     else if (swellF ((i.drop 1).drop k)).length≠n then ([],2) else (swellF ((i.drop 1).drop k),0)
   else if ((i.drop 1).drop k).length≠n then ([],2) else ((i.drop 1).drop k,0)
section
variable {i:List UInt8} {n k e:Nat}
theorem unp_form (h:1 < (i.getD 0 0).toNat):unpF i=([],3):=by unfold unpF;rw [if_pos h]
theorem unp_int (h:¬ 1 < (i.getD 0 0).toNat) (h1:intL (i.drop 1) 20000=(n,k,e)) (he:e≠0):unpF i=([],e):=by
 unfold unpF;rw [if_neg h,h1];simp only;rw [if_pos he]
theorem unp_swell (h:(i.getD 0 0).toNat=1) (h1:intL (i.drop 1) 20000=(n,k,0)) (h2:(readF ((i.drop 1).drop k)).1.1=e) (he:e≠0):unpF i=([],e):=by
 unfold unpF;rw [if_neg (by omega),h1];simp only;rw [if_neg (by simp),if_pos h,if_pos (by rw [h2];exact he),h2]
theorem unp_range1 (h:(i.getD 0 0).toNat=1) (h1:intL (i.drop 1) 20000=(n,k,0)) (h2:(readF ((i.drop 1).drop k)).1.1=0) (h3:(swellF ((i.drop 1).drop k)).length≠n):unpF i=([],2):=by
 unfold unpF;rw [if_neg (by omega),h1];simp only;rw [if_neg (by simp),if_pos h,if_neg (by rw [h2];simp),if_pos h3]
theorem unp_ok1 (h:(i.getD 0 0).toNat=1) (h1:intL (i.drop 1) 20000=(n,k,0)) (h2:(readF ((i.drop 1).drop k)).1.1=0) (h3:(swellF ((i.drop 1).drop k)).length=n):unpF i=(swellF ((i.drop 1).drop k),0):=by
 unfold unpF;rw [if_neg (by omega),h1];simp only;rw [if_neg (by simp),if_pos h,if_neg (by rw [h2];simp),if_neg (by rw [h3];simp)]
theorem unp_range0 (h:(i.getD 0 0).toNat=0) (h1:intL (i.drop 1) 20000=(n,k,0)) (h3:((i.drop 1).drop k).length≠n):unpF i=([],2):=by
 unfold unpF;rw [if_neg (by omega),h1];simp only;rw [if_neg (by simp),if_neg (by omega),if_pos h3]
theorem unp_ok0 (h:(i.getD 0 0).toNat=0) (h1:intL (i.drop 1) 20000=(n,k,0)) (h3:((i.drop 1).drop k).length=n):unpF i=((i.drop 1).drop k,0):=by
 unfold unpF;rw [if_neg (by omega),h1];simp only;rw [if_neg (by simp),if_neg (by omega),if_neg (by rw [h3];simp)]
end
theorem unp_few {i b:List UInt8} (h:unpF i=(b,0)):b.length≤20000:=by
 have hint:∀ n k,intL (i.drop 1) 20000=(n,k,0)→n≤20000:=by
   intro n k h1
   unfold intL at h1
   split at h1
   · rename_i h2;injection h1 with _ h1;injection h1 with _ h1;exact absurd h1 h2
   · split at h1
     · injection h1 with _ h1;injection h1 with _ h1;cases h1
     · rename_i h2;rw [h1] at h2;simp only at h2;omega
 unfold unpF at h
 split at h
 · injection h with _ h;cases h
 · rcases hi:intL (i.drop 1) 20000 with ⟨n,k,e⟩
   rw [hi] at h
   simp only at h
   split at h
   · rename_i he;injection h with _ h;exact absurd h he
   · rename_i he
     have he0:e=0:=by simpa using he
     subst he0
     have:=hint n k hi
     split at h
     · split at h
       · rename_i h2;injection h with _ h;exact absurd h h2
       · split at h
         · injection h with _ h;cases h
         · rename_i h3;injection h with h _;rw [←h];omega
     · split at h
       · injection h with _ h;cases h
       · rename_i h3;injection h with h _;rw [←h];omega
theorem packL_len (b:List UInt8):(packL b).length=1 + (putL b.length).length + min (sqL b).length b.length:=by
 unfold packL
 by_cases h:(sqL b).length < b.length
 · rw [if_pos h,List.length_cons,List.length_append];omega
 · rw [if_neg h,List.length_cons,List.length_append];omega
theorem frm_len (b:List UInt8):(frmL b).length=8 + (putL b.length).length + min (sqL b).length b.length:=by
 unfold frmL
 rw [sealL_len,List.length_cons,List.length_cons,List.length_cons,packL_len];omega
theorem intL_len (b more:List UInt8) (h:b.length≤20000):intL (putL b.length ++ more) 20000=(b.length,(putL b.length).length,0) :=
 intL_ok (getL_put b.length more (by omega)) (by omega)
theorem unp_whole (b:List UInt8) (h:b.length≤20000):unpF (0 :: (putL b.length ++ b))=(b,0):=by
 have h1:=unp_ok0 (i:=0 :: (putL b.length ++ b)) rfl (intL_len b b h) (by rw [List.drop_one,List.tail_cons,List.drop_left])
 rw [h1,List.drop_one,List.tail_cons,List.drop_left]
theorem unp_short (b:List UInt8) (h:b.length≤20000):unpF (1 :: (putL b.length ++ sqL b))=(b,0):=by
 obtain ⟨k1,k2⟩:=swell_sq b h
 have hd:((1 :: (putL b.length ++ sqL b)).drop 1).drop (putL b.length).length=sqL b:=by rw [List.drop_one,List.tail_cons,List.drop_left]
 have h1:=unp_ok1 (i:=1 :: (putL b.length ++ sqL b)) rfl (intL_len b (sqL b) h) (by rw [hd,k2]) (by rw [hd,k1])
 rw [h1,hd,k1]
theorem unp_pack (b:List UInt8) (h:b.length≤20000):unpF (packL b)=(b,0):=by
 unfold packL
 by_cases hc:(sqL b).length < b.length
 · rw [if_pos hc];exact unp_short b h
 · rw [if_neg hc];exact unp_whole b h
theorem opn_frm (b:List UInt8):opnF (frmL b)=(3,packL b,0):=by
 unfold frmL
 rw [opn_seal 3 (packL b) (by rw [packL_len];omega),if_neg (by decide)];rfl
theorem putL_size {n:Nat} (h:n≤20000):(putL n).length=1 + (if 128≤n then 1 else 0) + (if 16384≤n then 1 else 0):=by
 rw [putL_sevens]
 by_cases h1:n < 128
 · rw [sevens_small h1,if_neg (by omega),if_neg (by omega)]
 · rw [sevens_big h1,if_pos (by omega)]
   by_cases h2:n < 16384
   · rw [sevens_small (by omega),if_neg (by omega)]
   · rw [sevens_big (by omega),sevens_small (by omega),if_pos (by omega)]
end Go.Proofs.YtjkbmfpomgcblaaGreatDoor
namespace Go.Proofs.YtjkbmfpomgcblaaGreatDoor
open Go.RowKit
def frmF (f h:List Ent) (l:List Wr):List UInt8×Nat×Int :=
 if (bodyF f h l).2.1≠0 then ([],(bodyF f h l).2) else (frmL (bodyF f h l).1,0,-1)
def unfF (s:List UInt8):(Nat×Int) ⊕ (List Ent×List Ent×List Wr) :=
 match opnF s with
 | (v,i,e)=>if e≠0 then .inl (e,-1) else if v≠3 then .inl (6,-1) else
   match unpF i with
   | (b,e)=>if e≠0 then .inl (e,-1) else
     match unbF b with
     | .inl r=>.inl r
     | .inr (f,h,l)=>if frmL b≠s then .inl (13,-1) else .inr (f,h,l)
section
variable {s i b:List UInt8} {v e x:Nat} {pl:Int} {f h:List Ent} {l:List Wr}
theorem unf_open (h0:opnF s=(v,i,e)) (he:e≠0):unfF s=.inl (e,-1):=by unfold unfF;rw [h0];simp only;rw [if_pos he]
theorem unf_state (h0:opnF s=(v,i,0)) (hv:v≠3):unfF s=.inl (6,-1):=by unfold unfF;rw [h0];simp only;rw [if_neg (by simp),if_pos hv]
theorem unf_pack (h0:opnF s=(3,i,0)) (h1:unpF i=(b,e)) (he:e≠0):unfF s=.inl (e,-1):=by
 unfold unfF;rw [h0];simp only;rw [if_neg (by simp),if_neg (by simp),h1];simp only;rw [if_pos he]
theorem unf_body (h0:opnF s=(3,i,0)) (h1:unpF i=(b,0)) (h2:unbF b=.inl (x,pl)):unfF s=.inl (x,pl):=by
 unfold unfF;rw [h0];simp only;rw [if_neg (by simp),if_neg (by simp),h1];simp only;rw [if_neg (by simp),h2]
theorem unf_false (h0:opnF s=(3,i,0)) (h1:unpF i=(b,0)) (h2:unbF b=.inr (f,h,l)) (h3:frmL b≠s):unfF s=.inl (13,-1):=by
 unfold unfF;rw [h0];simp only;rw [if_neg (by simp),if_neg (by simp),h1];simp only;rw [if_neg (by simp),h2];simp only;rw [if_pos h3]
theorem unf_ok (h0:opnF s=(3,i,0)) (h1:unpF i=(b,0)) (h2:unbF b=.inr (f,h,l)) (h3:frmL b=s):unfF s=.inr (f,h,l):=by
 unfold unfF;rw [h0];simp only;rw [if_neg (by simp),if_neg (by simp),h1];simp only;rw [if_neg (by simp),h2];simp only;rw [if_neg (by simpa using h3)]
end
theorem frm_of {b:List UInt8} {f h:List Ent} {l:List Wr} (hu:unbF b=.inr (f,h,l)):frmF f h l=(frmL b,0,-1)∧rightB f h l∧bodyL f h l=b∧b.length≤20000:=by
 obtain ⟨h1,h2,h3⟩:=unb_only hu
 have h4:bodyF f h l=(b,0,-1):=by rw [bodyF_ok h1 (by rw [h2];omega),h2]
 refine ⟨?_,h1,h2,h3⟩
 unfold frmF;rw [h4];rw [if_neg (by simp)]
theorem unf_frm {f h:List Ent} {l:List Wr} (hr:rightB f h l) (hl:(bodyL f h l).length≤20000):unfF (frmL (bodyL f h l))=.inr (f,h,l):=by
 have h1:=unb_body hr [] (by simpa using hl)
 rw [List.append_nil,if_pos rfl] at h1
 exact unf_ok (opn_frm _) (unp_pack _ hl) h1 rfl
theorem frmF_bad {f h:List Ent} {l:List Wr} {s:List UInt8} {e:Nat} {pl:Int} (h0:bodyF f h l=(s,e,pl)) (he:e≠0):frmF f h l=([],e,pl):=by unfold frmF;rw [h0,if_pos he]
theorem frmF_ok {f h:List Ent} {l:List Wr} {s:List UInt8} {pl:Int} (h0:bodyF f h l=(s,0,pl)):frmF f h l=(frmL s,0,-1):=by unfold frmF;rw [h0,if_neg (by simp)]
end Go.Proofs.YtjkbmfpomgcblaaGreatDoor
