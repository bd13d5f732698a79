/- Rows of strings of a call's own (XStq), where the decimal numeral stands. -/
import Derived.Test.YtbifkjmmhfnblaaDoorDec
import Derived.Test.YtbifkjmmhfnblaaDoorStq
