import Derived.Test.YtgfinhehgfbdgaaGreatDoorKa06
import Derived.Test.YtgfinhehgfbdgaaGreatDoorProg
import Derived.WalkKit
import Derived.Handy
import Derived.Deep.RegionHeld3
import Derived.StillTailTactics
import Derived.Test.YtgfinhehgfbdgaaGreatDoorKa09
import Derived.Test.YtgfinhehgfbdgaaGreatDoorKa01
import Derived.WalkSpells
namespace Go.Proofs.YtgfinhehgfbdgaaGreatDoor
open Go.RowKit
def cmpF (x y:Int):Int:=if x < y then -1 else if y < x then 1 else 0
def orF (p q:Int):Int:=if p=0 then q else p
def cI (a b:Int×Int):Int:=orF (cmpF a.1 b.1) (cmpF a.2 b.2)
def wiF (x:Int×Int) (from_ have_:List Ent):Bool:=decide (ofF from_ x.2 < x.1) && decide (x.1≤ofF have_ x.2)
set_option maxRecDepth 100000 in
theorem cmp_any (x y:Int) (w:World):Calls Tryz.prog 162 #[.int .i64 x,.int .i64 y] w fun e w'=>e=.returned (.int .i64 (cmpF x y))∧w=w':=by
 have hn:∀ (z:Int) (w:World),Calls Tryz.prog 196 #[.int .i64 z] w fun e w'=>e=.returned (.bool false)∧w=w':=fun z w=>by
   go_enter Tryz.func196,Tryz.ntmps196
   go_wp2
   go_ret
   exact ⟨by first | rfl | simp,rfl⟩
 by_cases h1:x < y
 · have HW:Hid (cmpF x y=-1):=Lib.hid (by unfold cmpF;rw [if_pos h1])
   rw [HW.out]
   go_enter Tryz.func162,Tryz.ntmps162
   go_wp2_with (first | (go_at_call 196;refine (hn _ _).mono ?_;rintro e w' ⟨rfl,rfl⟩))
   go_ret
   exact ⟨rfl,rfl⟩
 · by_cases h2:y < x
   · have HW:Hid (cmpF x y=1):=Lib.hid (by unfold cmpF;rw [if_neg h1,if_pos h2])
     rw [HW.out]
     go_enter Tryz.func162,Tryz.ntmps162
     go_wp2_with (first | (go_at_call 196;refine (hn _ _).mono ?_;rintro e w' ⟨rfl,rfl⟩))
     go_ret
     exact ⟨rfl,rfl⟩
   · obtain rfl:x=y:=by omega
     have HW:Hid (cmpF x x=0):=Lib.hid (by unfold cmpF;rw [if_neg h1,if_neg h1])
     rw [HW.out]
     clear h1 h2
     go_enter Tryz.func162,Tryz.ntmps162
     go_wp2_with (first | (go_at_call 196;refine (hn _ _).mono ?_;rintro e w' ⟨rfl,rfl⟩))
     go_ret
     exact ⟨rfl,rfl⟩
theorem cmp_as (x y c:Int) (w:World) (h:cmpF x y=c):Calls Tryz.prog 162 #[.int .i64 x,.int .i64 y] w fun e w'=>e=.returned (.int .i64 c)∧w=w':=by
 subst h;exact cmp_any x y w
set_option maxRecDepth 100000 in
theorem or_any (p q c:Int) (B:Nat) (w:World) (h0:w.cell? ⟨B,0,none⟩=some (.int .i64 p)) (h1:w.cell? ⟨B,1,none⟩=some (.int .i64 q)) (h:orF p q=c) :
   Calls Tryz.prog 161 #[.slice (some ⟨B,0,none⟩) 2 2] w fun e w'=>e=.returned (.int .i64 c)∧w=w':=by
 subst h
 by_cases hp:p=0
 · have HW:Hid (orF p q=q):=Lib.hid (by unfold orF;rw [if_pos hp])
   rw [HW.out]
   subst hp
   by_cases hq:q=0
   · subst hq
     go_enter Tryz.func161,Tryz.ntmps161
     go_wp2
     refine wp_loop_rounds 3 ?_
     rw [rounds_succ]
     go_wp2
     rw [rounds_succ]
     go_wp2
     rw [rounds_succ]
     go_wp2
     go_ret
     exact ⟨rfl,rfl⟩
   · have bq:(q == 0)=false:=by simpa using hq
     have bq2:(q != 0)=true:=by simpa using hq
     go_enter Tryz.func161,Tryz.ntmps161
     go_wp2
     refine wp_loop_rounds 2 ?_
     rw [rounds_succ]
     go_wp2
     rw [rounds_succ]
     go_wp2
     go_ret
     exact ⟨rfl,rfl⟩
 · have HW:Hid (orF p q=p):=Lib.hid (by unfold orF;rw [if_neg hp])
   rw [HW.out]
   have bq:(p == 0)=false:=by simpa using hp
   have bq2:(p != 0)=true:=by simpa using hp
   go_enter Tryz.func161,Tryz.ntmps161
   go_wp2
   refine wp_loop_rounds 1 ?_
   rw [rounds_succ]
   go_wp2
   go_ret
   exact ⟨rfl,rfl⟩
theorem three_new (w:World) (o1 o2:Obj) (a b:Value) (t:TypeId):(((w.alloc o1).alloc o2).alloc (.cells #[a,b] t)).cell? ⟨w.heap.size + 1 + 1,0,none⟩=some a∧(((w.alloc o1).alloc o2).alloc (.cells #[a,b] t)).cell? ⟨w.heap.size + 1 + 1,1,none⟩=some b:=by
 have h:=heap_alloc_new ((w.alloc o1).alloc o2) (.cells #[a,b] t)
 rw [World.size_alloc,World.size_alloc] at h
 exact ⟨cell_of_row _ _ 0 _ _ (0,0) h,cell_of_row _ _ 1 _ _ (0,0) h⟩
set_option maxRecDepth 100000 in
set_option maxHeartbeats 2000000 in
theorem idcmp_any (a b:Int×Int) (w:World):Calls Tryz.prog 104 #[.agg #[.int .i64 a.1,.int .i64 a.2],.agg #[.int .i64 b.1,.int .i64 b.2]] w fun e w'=>e=.returned (.int .i64 (cI a b))∧Below w.heap.size w w':=by
 obtain ⟨x1,x2⟩:=a
 obtain ⟨y1,y2⟩:=b
 simp only
 obtain ⟨c1,hc1⟩:∃ c,cmpF x1 y1=c:=⟨_,rfl⟩
 obtain ⟨c2,hc2⟩:∃ c,cmpF x2 y2=c:=⟨_,rfl⟩
 obtain ⟨c,hc⟩:∃ c,orF c1 c2=c:=⟨_,rfl⟩
 have HW:Hid (cI (x1,x2) (y1,y2)=c):=Lib.hid (show cI (x1,x2) (y1,y2)=c by unfold cI;simp only;rw [hc1,hc2,hc])
 have H1:=Lib.hid hc1
 have H2:=Lib.hid hc2
 have H3:=Lib.hid hc
 clear hc1 hc2 hc
 rw [HW.out]
 go_enter Tryz.func104,Tryz.ntmps104
 go_wp2
 have k0:((w.alloc (.cells #[.int .i64 x1,.int .i64 x2] 59)).alloc (.cells #[.int .i64 y1,.int .i64 y2] 59)).cell? ⟨w.heap.size,0,none⟩=some (.int .i64 x1)∧((w.alloc (.cells #[.int .i64 x1,.int .i64 x2] 59)).alloc (.cells #[.int .i64 y1,.int .i64 y2] 59)).cell? ⟨w.heap.size,1,none⟩=some (.int .i64 x2)∧((w.alloc (.cells #[.int .i64 x1,.int .i64 x2] 59)).alloc (.cells #[.int .i64 y1,.int .i64 y2] 59)).cell? ⟨w.heap.size + 1,0,none⟩=some (.int .i64 y1)∧((w.alloc (.cells #[.int .i64 x1,.int .i64 x2] 59)).alloc (.cells #[.int .i64 y1,.int .i64 y2] 59)).cell? ⟨w.heap.size + 1,1,none⟩=some (.int .i64 y2):=by simp
 go_region_held3 (fun w'=>w'.cell? ⟨w.heap.size,0,none⟩=some (.int .i64 x1)∧w'.cell? ⟨w.heap.size,1,none⟩=some (.int .i64 x2)∧w'.cell? ⟨w.heap.size + 1,0,none⟩=some (.int .i64 y1)∧w'.cell? ⟨w.heap.size + 1,1,none⟩=some (.int .i64 y2)) (first | exact k0 | go_keep) (first | (go_at_call 162;((with_reducible refine (cmp_as x1 y1 c1 _ H1.out).mono ?_);rintro r w' ⟨rfl,rfl⟩)) | (go_at_call 162;((with_reducible refine (cmp_as x2 y2 c2 _ H2.out).mono ?_);rintro r w' ⟨rfl,rfl⟩)) | (go_at_call 161;((refine (or_any c1 c2 c _ _ (by simp;exact (three_new _ _ _ _ _ _).1) (by simp;exact (three_new _ _ _ _ _ _).2) H3.out).mono ?_);rintro r w' ⟨rfl,rfl⟩)))
 go_wp2
 go_ret
 refine ⟨rfl,?_⟩
 first
   | exact (((Below.refl _ _).alloc (Nat.le_refl _) _).alloc (by simp) _).drew.alloc (by simp;omega) _
   | exact ((((Below.refl _ _).alloc (Nat.le_refl _) _).alloc (by simp) _).alloc (by simp;omega) _).drew
theorem idcmp_as (x1 x2 y1 y2 c:Int) (w:World) (h:cI (x1,x2) (y1,y2)=c):Calls Tryz.prog 104 #[.agg #[.int .i64 x1,.int .i64 x2],.agg #[.int .i64 y1,.int .i64 y2]] w fun e w'=>e=.returned (.int .i64 c)∧Below w.heap.size w w':=by
 subst h;exact idcmp_any (x1,x2) (y1,y2) w
end Go.Proofs.YtgfinhehgfbdgaaGreatDoor
namespace Go.Proofs.YtgfinhehgfbdgaaGreatDoor
theorem fine_cost {t:Tok} (h:fine t) (hs:t.own.size≤140737488351232):(putT t).length≤lenT t + 10∧1≤lenT t:=by
 by_cases h0:t.own.size=0
 · obtain ⟨_,h1,h2⟩:=rep_cost h h0
   omega
 · rw [putT_own h0,List.length_append,←size_data]
   have:=putL_le10 (n:=2 * t.own.size) (by omega)
   unfold lenT;omega
theorem cost_le {l:List Tok} (h:∀ t∈l,fine t∧t.own.size≤140737488351232):cost l≤sumT l + 10 * l.length∧l.length≤sumT l:=by
 induction l with
 | nil=>exact ⟨Nat.zero_le _,Nat.le_refl _⟩
 | cons t r ih =>
   obtain ⟨i1,i2⟩:=ih (fun u hu=>h u (List.mem_cons_of_mem _ hu))
   obtain ⟨h1,h2⟩:=h t (List.mem_cons_self ..)
   obtain ⟨c1,c2⟩:=fine_cost h1 h2
   rw [cost_cons,sumT,List.length_cons]
   omega
theorem right_few {l:List Tok} (h:(rightF l 0 0).1=0):l.length≤20000∧cost l≤220000∧sumT l≤20000:=by
 have h1:=textL_len (b:=[]) h rfl (by omega)
 rw [textL_sum,List.length_nil] at h1
 obtain ⟨h2,h3⟩:=cost_le (right_fine h)
 omega
theorem sumT_app (a b:List Tok):sumT (a ++ b)=sumT a + sumT b:=by
 induction a with
 | nil=>rw [List.nil_append];exact (Nat.zero_add _).symm
 | cons u r ih=>rw [List.cons_append,sumT,sumT,ih];omega
theorem right_own {l:List Tok} (h:(rightF l 0 0).1=0):∀ t∈l,t.own.size≤20000:=fun t ht=>by
 obtain ⟨i,hi,e⟩:=List.mem_iff_getElem.1 ht
 have h2:=right_few (rightF_take h (i + 1))
 rw [List.take_succ_eq_append_getElem hi,e,sumT_app] at h2
 have h3:sumT [t]=lenT t:=rfl
 have:t.own.size≤lenT t:=by unfold lenT;omega
 omega
theorem cost_take {l:List Tok} (k:Nat):cost (l.take k)≤cost l:=by
 have h:=cost_app (l.take k) (l.drop k)
 rw [List.take_append_drop] at h
 omega
theorem writeL_snoc (l:List Tok) (k:Nat) (t:Tok) (h:l[k]? = some t):writeL (l.take (k + 1))=writeL (l.take k) ++ putT t:=by
 obtain ⟨hk,e⟩:=List.getElem?_eq_some_iff.1 h
 rw [List.take_succ_eq_append_getElem hk,writeL_app,e,writeL_cons,writeL_nil,List.append_nil]
end Go.Proofs.YtgfinhehgfbdgaaGreatDoor
namespace Go.Proofs.YtgfinhehgfbdgaaGreatDoor
open Go.RowKit
def TokensIs (w:World) (l:List Tok) (e:Ending) (w':World):Prop :=
 ∃ v,e=.returned v∧ownsK w' w.heap.size v l∧Below w.heap.size w w'
set_option maxRecDepth 100000 in
set_option maxHeartbeats 2000000 in
theorem tokens_any (s:ByteArray) (w:World) (hs:s.size≤400000) :
   Calls Tryz.prog 65 #[.string s] w (TokensIs w (toks s.data.toList)):=by
 have HS : Hid (s.size ≤ maxLen) := by have h : s.size ≤ maxLen := by unfold maxLen; omega
                                       exact h
 have hlen:s.data.toList.length=s.size:=(size_data s).symm
 have HL:=Lib.hid hlen
 clear hlen
 go_enter Tryz.func65,Tryz.ntmps65
 go_wp2
 go_loopw [3,4,5] (fun v fr a wr=>∃ (f fr' a':Nat) (acc:List Tok),fr=.int .i64 fr'∧a=.int .i64 a'∧fr'≤a'∧a'≤s.size∧s.size≤a' + f∧acc.length≤2 * a'∧toks s.data.toList=acc ++ tks s.data.toList f fr' a'∧ownsK wr w.heap.size v acc∧Below w.heap.size w wr) (fun _ _ a _=>s.size - (intOf a).toNat)
 case atStart=>exact ⟨s.size,0,0,[],rfl,rfl,Nat.le_refl _,Nat.zero_le _,by omega,by simp,by unfold toks;rw [HL.out];rfl,ownsK_nil _ _,Below.refl _ _⟩
 case round =>
   obtain ⟨f,fr,a,acc,rfl,rfl,hfa,ha,hf,hac,heq,hown,hbel⟩:=hrel
   have HEQ:=Lib.hid heq
   have HOWN:=Lib.hid hown
   have HBEL:=Lib.hid hbel
   clear heq hown hbel
   by_cases hlt:a < s.size
   · obtain ⟨f,rfl⟩:∃ f',f=f' + 1:=⟨f - 1,by omega⟩
     have hl:a < s.data.toList.length:=by rw [HL.out];exact hlt
     rcases find_cases s.data.toList a with ⟨hz,_⟩ | ⟨b,n,hfn,_,hb1,hb2,hb3,hn1,hn2,hn3,_⟩
     · have HR : Hid (findV (find s.data.toList a) = .tuple #[.int .i64 0, .int .i64 0]) := by
         have h:findV (find s.data.toList a)=.tuple #[.int .i64 0,.int .i64 0]:=by rw [hz];rfl
         exact h
       have HN:Hid (toks s.data.toList=acc ++ tks s.data.toList f fr (a + 1)):=by
         have h:toks s.data.toList=acc ++ tks s.data.toList f fr (a + 1):=by rw [HEQ.out,tks_step hl (by rw [hz])]
         exact h
       clear hz hl HEQ
       go_wp2_with fail
       refine (find_nat s a _ HS.out hlt).mono ?_
       rintro e w1 ⟨rfl,q1,rfl⟩
       rw [HR.out]
       go_wp2
       go_roundw
       case rel=>exact ⟨f,fr,a + 1,acc,rfl,by go_num,by omega,by omega,by omega,by omega,HN.out,HOWN.out.drewN _,below_drewN HBEL.out _⟩
       case measure=>simp [intOf];omega
     · rw [HL.out] at hn3
       have HR:Hid (findV (find s.data.toList a)=.tuple #[.int .i64 b,.int .i64 n]):=by
         have h:findV (find s.data.toList a)=.tuple #[.int .i64 b,.int .i64 n]:=by rw [hfn];rfl
         exact h
       have hn0:((n:Int) == 0)=false:=by simp;omega
       have hxs:(s.extract fr a).size≤140737488351232:=by rw [ByteArray.size_extract];omega
       have HXS:=Lib.hid hxs
       obtain ⟨L1,hL1⟩:∃ L1,acc ++ ownT (s.extract fr a).data.toList=L1:=⟨_,rfl⟩
       have hol:(acc ++ ownT (s.extract fr a).data.toList).length≤2 * a + 1:=by
         rw [List.length_append]
         have:(ownT (s.extract fr a).data.toList).length≤1:=by unfold ownT;split <;> simp
         omega
       rw [hL1] at hol
       have HOL:=Lib.hid hol
       have HN:Hid (toks s.data.toList=(L1 ++ [repT b n]) ++ tks s.data.toList f (a + n) (a + n)):=by
         have h:toks s.data.toList=(L1 ++ [repT b n]) ++ tks s.data.toList f (a + n) (a + n):=by
           rw [HEQ.out,tks_rep hl hfn (by omega),←hL1,ext_data];simp
         exact h
       have HL1:=Lib.hid hL1
       clear hL1
       have HAC : Hid (acc.length ≤ 999999) := by have h : acc.length ≤ 999999 := by omega
                                                  exact h
       clear hfn hl HEQ hxs hol
       have e1:(fr:Int)≤(a:Int):=by omega
       have e2:(a:Int)≤(s.size:Int):=by omega
       go_wp2_with fail
       refine (find_nat s a _ HS.out hlt).mono ?_
       rintro e w1 ⟨rfl,q1,rfl⟩
       rw [HR.out]
       go_wp2_with fail
       refine (own_any _ acc _ w.heap.size (wr.drewN q1) HXS.out HBEL.out.size (HOWN.out.drewN _) HAC.out).mono ?_
       rintro r w1 ⟨v1,rfl,ho1,hb1⟩
       rw [HL1.out] at ho1
       have hb2:Below w.heap.size w w1:=(below_drewN HBEL.out q1).trans hb1
       have HB2:=Lib.hid hb2
       have HO1:=Lib.hid ho1
       have hz1:=hb2.size
       have HOL1:Hid (L1.length + 1≤1000000):=by
         have h:L1.length + 1≤1000000:=by have:=HOL.out;omega
         exact h
       clear hb1 hb2 ho1 HOWN HBEL
       go_wp2_with (at_builtin;refine wpList_append_tok rfl _ _ rfl w.heap.size _ L1 rfl (HO1.out.alloc _) w1.heap.size 1 rfl (repT b n) ?c1 ?c2 ?c3 ?_)
       case c1=>exact tokBlk_new _ _ _ _
       case c2=>exact HOL1.out
       case c3=>simp;omega
       · intro g cap w2 ho2 hg2
         have HB3:Hid (Below w.heap.size w w2):=(HB2.out.alloc hz1 _).grown hg2 (by simp;omega) (fun g hg=>(HO1.out.lt g hg).1)
         have HO2:=Lib.hid ho2
         clear ho2 hg2
         go_wp2
         go_roundw
         case rel=>exact ⟨f,a + n,a + n,_,by go_num,by go_num,Nat.le_refl _,by omega,by omega,by rw [List.length_append];simp only [List.length_singleton];have:=HOL.out;omega,HN.out,HO2.out,HB3.out⟩
         case measure=>simp [intOf];omega
   · obtain rfl:a=s.size:=by omega
     have hxs:(s.extract fr s.size).size≤140737488351232:=by rw [ByteArray.size_extract];omega
     have HXS:=Lib.hid hxs
     have HN:Hid (toks s.data.toList=acc ++ ownT (s.extract fr s.size).data.toList):=by
       have h:toks s.data.toList=acc ++ ownT (s.extract fr s.size).data.toList:=by
         rw [HEQ.out,tks_end (by rw [HL.out];omega),ext_data]
       exact h
     have HAC : Hid (acc.length ≤ 999999) := by have h : acc.length ≤ 999999 := by omega
                                                exact h
     clear hxs HEQ
     go_wp2_with fail
     refine (own_any _ acc _ w.heap.size wr HXS.out HBEL.out.size HOWN.out HAC.out).mono ?_
     rintro r w1 ⟨v1,rfl,ho1,hb1⟩
     have HO1:=Lib.hid ho1
     have HB1:Hid (Below w.heap.size w w1):=HBEL.out.trans hb1
     clear ho1 hb1
     go_wp2
     go_ret
     exact ⟨_,rfl,by rw [HN.out];exact HO1.out,HB1.out⟩
end Go.Proofs.YtgfinhehgfbdgaaGreatDoor
